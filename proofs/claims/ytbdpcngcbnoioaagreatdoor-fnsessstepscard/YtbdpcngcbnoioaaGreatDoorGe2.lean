import Derived.Test.YtbdpcngcbnoioaaGreatDoorGe1
import Derived.Test.YtbdpcngcbnoioaaGreatDoorGk2
set_option maxRecDepth 100000
set_option maxHeartbeats 8000000
namespace Go.Proofs.YtbdpcngcbnoioaaGreatDoor
open Go.RowKit
open Go.RowKit renaming Below->fD
open Go.RowKit.Below renaming refl->fH
attribute [local go_sem ↓] Go.wp_at_zero Go.wp_at_succ
theorem FC (v:Value)(l:List Rw)(s:Int)(w:World)(h:Rs w v l)(S:aR l=true)(hw:cH s 1 7=true):
  Calls Tryz.prog 188 #[v,.int .i64 s] w fun e w'=>∃o:Value,e=.returned o/\aD w' w.heap.size o (aP aQ (cN s l))/\fD w.heap.size w w':=by
 obtain⟨a,v5,rfl,hc,hm,hn,G⟩:=Rs.open h;unfold maxLen at hm;have HC:=(show Hid _ from G);have oE:=dW w rfl;have Z:=aG (fH _ w) (.cells #[] 55);have hl:=fP S;have HK:Hid (∀(k:Nat)(K V A B D:Int),l[k]?=some (((K,V),(A,B)),D)->0<=K/\K<=3/\0<=V/\V<=99/\bH A B=true):=Au S;have HA:Hid (aM (cN s l)<=39999600):=by have h1:=CN s l;have h2:=mY S;show _<=_;omega
 clear G h S;go_enter Tryz.func188,Tryz.ntmps188;go_wp2_with fail
 go_loopw [5,6] (fun o i wr=>∃k:Nat,k<=l.length/\i=.int .i64 k/\aD wr w.heap.size o (cN s (l.take k))/\fD w.heap.size w wr) (fun _ i _=>l.length-(intOf i).toNat)
 case atStart=>exact⟨0,by omega,rfl,by simpa[cN]using oE,Z⟩
 case round=>
  clear oE Z;obtain⟨k,v3,rfl,Q,M⟩:=hrel;have N:Hid (aD wr w.heap.size u5 (cN s (l.take k))):=Q;have y4:(cN s (l.take k)).length<=400:=by have:=pS s (l.take k);simp at this;omega
  clear Q;have y0:=M.size
  by_cases y2:k<l.length
  ·obtain⟨g,off,K,V,A,B,D,rfl,hg,hr,c0,c1,c2,c3,c4⟩:=HC.out k y2;obtain⟨i1,i2,i3,i4,-⟩:=HK.out k _ _ _ _ _ hr;have v4:mM (K,V):=⟨i1,i2,i3,i4⟩;have ik:((k:Int)<(l.length:Int)):=by omega
   have d0:∀p:dH wr,p.ww.cell? ⟨g,off+k*5,none⟩=some (.int .i64 K):=fun p=>cB p.below (cB M c0);have d1:∀p:dH wr,p.ww.cell? ⟨g,off+k*5+1,none⟩=some (.int .i64 V):=fun p=>cB p.below (cB M c1);have C2:Hid (w.cell? ⟨g,off+k*5+2,none⟩=some (.int .i64 A)/\w.cell? ⟨g,off+k*5+3,none⟩=some (.int .i64 B)/\w.cell? ⟨g,off+k*5+4,none⟩=some (.int .i64 D)):=⟨c2,c3,c4⟩;have HR:=(show Hid _ from hr);have hne:=jC wr;clear c0 c1 c2 c3 c4 hr i1 i2 i3 i4;cases hP:eR s (K,V)
   ·have HZ:=(show Hid _ from DN HR.out hP);go_wp2_with fail
    (refine jJ (by kernel_rfl) (by kernel_rfl) ?_;(repeat (go_big_quiet_step ((first|(go_at_call 228;exact iJ (Eg (by with_reducible assumption) (by with_reducible assumption) (by with_reducible assumption) _))))));refine wpQuiet_nil ?_)
    intro J F
    replace F:=jM F
    have I:=aH M F;have U:Hid (aD J w.heap.size u5 (cN s (l.take k))):=bJ N.out F;go_wp2_with fail;go_roundw
    case rel=>exact⟨k+1,by omega,by go_num,by rw[HZ.out];exact U.out,I⟩
    case measure=>simp[intOf];omega
   ·have HZ:=(show Hid _ from CC HR.out hP);go_wp2_with fail
    (refine jJ (by kernel_rfl) (by kernel_rfl) ?_;(repeat (go_big_quiet_step ((first|(go_at_call 228;exact iJ (Eg (by with_reducible assumption) (by with_reducible assumption) (by with_reducible assumption) _))))));refine wpQuiet_nil ?_)
    intro J F
    replace F:=jM F
    have I:=aH M F;have v1:=I.size;have U:Hid (aD J w.heap.size u5 (cN s (l.take k))):=bJ N.out F;have Y:Hid (∀W,fD w.heap.size w W->W.cell? ⟨g,off+k*5+2,none⟩=some (.int .i64 A)/\W.cell? ⟨g,off+k*5+3,none⟩=some (.int .i64 B)/\W.cell? ⟨g,off+k*5+4,none⟩=some (.int .i64 D)):=fun W hW=>
     ⟨cB hW C2.out.1,cB hW C2.out.2.1,cB hW C2.out.2.2⟩
    have H:fD w.heap.size w J.drew:=I.drew;have OD:Hid (aD J.drew w.heap.size u5 (cN s (l.take k))):=bJ U.out (fH _ _).drew;have y1:∀L:Obj,w.heap.size<=(J.drew.alloc L).heap.size:=fun L=>(aG H L).size;have eM:cR s (K,V)=((cR s (K,V)).1,(cR s (K,V)).2):=rfl;have HM:Hid (cR s (K,V)=((cR s (K,V)).1,(cR s (K,V)).2)):=eM;clear eM N U;generalize (cR s (K,V)).1=K2 at*;generalize (cR s (K,V)).2=V2 at*;generalize cN s (l.take k)=LL at*;have y3:LL.length<=2000000:=by omega
    obtain⟨e2,e3,e4⟩:=Y.out _ I;have HG:Hid (∀(R:World)(L:Obj),(J.drew.alloc L).grownBy R u5.ownBlock->fD w.heap.size w R):=fun R L h3=>Below.aO (aG H _) h3 (aG H L).size (oB OD.out);go_wp2_with fail
    go_region_held3 (fun W=>W.cell? ⟨g,off+k*5+2,none⟩=some (.int .i64 A)/\W.cell? ⟨g,off+k*5+3,none⟩=some (.int .i64 B)/\W.cell? ⟨g,off+k*5+4,none⟩=some (.int .i64 D))
     (first|exact Y.out _ H|exact Y.out _ (aG H _)|exact Y.out _ h9)
     (first
      | (refine nX _ (by rfl) _ _ (by rfl) w.heap.size _ LL (by rfl) (OD.out.alloc _) _ K2 V2 A B D (by rfl) (Bk.new _ _ rfl) y3 (y1 _) ?_;intro g7 z4 R x0 T v2;have h9:=HG.out _ _ T))
    go_wp2_with fail;exact⟨⟨k+1,by omega,by go_num,by rw[HZ.out,HM.out];exact x0,h9⟩,by simp[intOf];omega⟩
  ·obtain rfl:k=l.length:=by omega
   rw[List.take_length]at N y4;have R1:Rs wr u5 (cN s l):=aD.rs N.out (by omega);clear N;go_wp2_with fail;refine (k9 _ (cN s l) _ R1 (by omega) (by have:=HA.out;omega)).mono ?_;rintro e w2 ⟨o2,rfl,O,y5⟩;have O2:Hid (aD w2 wr.heap.size o2 (aP aQ (cN s l))):=O;clear O;go_wp2_with fail;go_ret;exact⟨_,rfl,bQ O2.out y0,aH M y5⟩
open Go.Shelf
theorem Eb (T:Nat)(s:Int)(v:Value)(l:List Rw)(w:World)(h:Rs w v l)(hk:aR l=true)(eg:∀args w,(callFunc T args).run Tryz.prog w=.ok (.enter T args) w)
  (Q:∀(K V:Int)(W:World),0<=K->K<=3->0<=V->V<=99->Calls Tryz.prog T #[.agg #[.int .i64 K,.int .i64 V]] W fun e M=>e=.returned (.tuple #[.agg #[.int .i64 (cR s (K,V)).1,.int .i64 (cR s (K,V)).2],.bool (eR s (K,V))])/\fD W.heap.size W M):
  Calls Tryz.prog 172 #[v,.func (.func T) #[] #[]] w fun e M=>∃o:Value,e=.returned o/\aD M w.heap.size o (cN s l)/\fD w.heap.size w M:=by
 have HW:Hid (∀(K V:Int)(W:World),0<=K->K<=3->0<=V->V<=99->Calls Tryz.prog T #[.agg #[.int .i64 K,.int .i64 V]] W fun e M=>e=.returned (.tuple #[.agg #[.int .i64 (cR s (K,V)).1,.int .i64 (cR s (K,V)).2],.bool (eR s (K,V))])/\fD W.heap.size W M):=Q;have hl:=fP hk;have HK:Hid (∀(k:Nat)(K V A B D:Int),l[k]?=some (((K,V),(A,B)),D)->0<=K/\K<=3/\0<=V/\V<=99/\bH A B=true):=Au hk;obtain⟨a,w5,rfl,hc,hm,hn,F⟩:=Rs.open h;unfold maxLen at hm;have HC:=(show Hid _ from F);clear F h hk Q;go_enter Tryz.func172,Tryz.ntmps172;go_wp2_with fail
 go_loopw [5,12] (fun o i wr=>∃k:Nat,k<=l.length/\i=.int .i64 k/\aD wr w.heap.size o (cN s (l.take k))/\fD w.heap.size w wr) (fun _ i _=>l.length-(intOf i).toNat)
 case atStart=>exact⟨0,by omega,rfl,by simpa[cN]using oN fX 5 55 w w.heap.size,fH _ _⟩
 case round=>
  obtain⟨k,w3,rfl,R,G⟩:=hrel;have Y:Hid (aD wr w.heap.size u5 (cN s (l.take k))):=R;have w4:(cN s (l.take k)).length<=400:=by have:=pS s (l.take k);simp at this;omega
  clear R
  by_cases x7:k<l.length
  ·obtain⟨g,off,K,V,A,B,D,rfl,hg,hr,c0,c1,c2,c3,c4⟩:=HC.out k x7;obtain⟨i1,i2,i3,i4,-⟩:=HK.out k _ _ _ _ _ hr;have d0:=cB G c0;have d1:=cB G c1;have d2:=cB G c2;have d3:=cB G c3;have d4:=cB G c4;have ik:((k:Int)<(l.length:Int)):=by omega
   have bx:=Bk.new (w:=wr) #[.int .i64 K,.int .i64 V,.int .i64 A,.int .i64 B,.int .i64 D] 55 rfl;have I:fD wr.heap.size wr (wr.alloc (.cells #[.int .i64 K,.int .i64 V,.int .i64 A,.int .i64 B,.int .i64 D] 55)):=aG (fH _ _) _;have Z:=aH G I;have O1:Hid (aD (wr.alloc (.cells #[.int .i64 K,.int .i64 V,.int .i64 A,.int .i64 B,.int .i64 D] 55)) w.heap.size u5 (cN s (l.take k))):=bJ Y.out I;have x6:Hid (eR s (K,V)=true->cN s (l.take (k+1))=cN s (l.take k)++[((cR s (K,V),(A,B)),D)]):=fun hp=>CC hr hp;have y9:Hid (eR s (K,V)=false->cN s (l.take (k+1))=cN s (l.take k)):=fun hp=>DN hr hp;clear c0 c1 c2 c3 c4 hr I G Y
   go_upto_region 5 with fail
   clear d0 d1 d2 d3 d4;generalize wr.heap.size=tb at*;generalize World.alloc _ _=wx at*;obtain⟨q0,q1,q2,q3,q4⟩:=bx.aa;go_wp2_with fail;refine (HW.out K V _ i1 i2 i3 i4).mono ?_;rintro e H ⟨rfl,J⟩;have x0:=bx.keep J
   have O2:Hid (aD H w.heap.size u5 (cN s (l.take k))):=bJ O1.out J
   have h9:=aH Z J
   have HM:Hid (cR s (K,V)=((cR s (K,V)).1,(cR s (K,V)).2)):=rfl;clear q0 q1 q2 q3 q4 bx Z J O1;generalize (cR s (K,V)).1=O at*;generalize (cR s (K,V)).2=N at*;generalize hP:eR s (K,V)=r at*;clear hP;have y5:=Bk.new (w:=H) #[.int .i64 O,.int .i64 N] 131 rfl;have L:fD H.heap.size H (H.alloc (.cells #[.int .i64 O,.int .i64 N] 131)):=aG (fH _ _) _;have bz:=x0.keep L;have S:=aH h9 L;have O3:Hid (aD (H.alloc (.cells #[.int .i64 O,.int .i64 N] 131)) w.heap.size u5 (cN s (l.take k))):=bJ O2.out L
   go_upto_region 6 with fail
   clear x0 h9 L O2;generalize H.heap.size=ub at*;generalize World.alloc _ _=wt at*;cases r
   ·have HZ:Hid (cN s (l.take (k+1))=cN s (l.take k)):=y9.out rfl;go_wp2_with fail;go_roundw
    case rel=>exact⟨k+1,by omega,by go_num,(by rw[HZ.out];exact O3.out),S⟩
    case measure=>simp[intOf];omega
   ·have HZ:Hid (cN s (l.take (k+1))=cN s (l.take k)++[(((O,N),(A,B)),D)]):=by show _=_;rw[x6.out rfl,HM.out]
    obtain⟨y0,y1,y2,y3,y4⟩:=bz.aa;obtain⟨t0,t1,_,_⟩:=y5.two;have v9:=S.size;have O4:=O3.out.alloc (.cells #[.int .i64 O,.int .i64 N,.int .i64 A,.int .i64 B,.int .i64 D] 55);clear O3;generalize hE:cN s (l.take k)=EL at*
    go_wp2_with (at_builtin;refine jZ _ rfl _ _ rfl w.heap.size _ EL rfl O4 _ O N A B D rfl (Bk.new _ _ rfl) (by omega) (by simp;omega) ?_;intro g7 v2 w7 x1 U w2)
    have x8:fD w.heap.size w w7:=Below.aO (aG S _) U (by simp;omega) (oB O4);go_roundw
    case rel=>exact⟨k+1,by omega,by go_num,by rw[HZ.out];exact x1,x8⟩
    case measure=>simp[intOf];omega
  ·obtain rfl:k=l.length:=by omega
   rw[List.take_length]at Y;have ik:¬((l.length:Int)<(l.length:Int)):=by omega
   go_wp2_with fail;go_ret;exact⟨_,rfl,Y.out,G⟩
end Go.Proofs.YtbdpcngcbnoioaaGreatDoor
