import Derived.Test.YtbdpcngcbnoioaaGreatDoorGe1
import Derived.Test.YtbdpcngcbnoioaaGreatDoorGk2
set_option maxRecDepth 100000
set_option maxHeartbeats 8000000
namespace Go.Proofs.YtbdpcngcbnoioaaGreatDoor
open Go.RowKit
open Go.RowKit renaming Below->fM
open Go.RowKit.Below renaming refl->fQ
attribute [local go_sem ↓] Go.wp_at_zero Go.wp_at_succ
theorem GX (v:Value)(l:List Rw)(s:Int)(w:World)(h:Rs w v l)(U:aZ l=true)(hw:cG s 1 7=true):
  Calls Tryz.prog 188 #[v,.int .i64 s] w fun e w'=>∃o:Value,e=.returned o/\aC w' w.heap.size o (aO aW (cJ s l))/\fM w.heap.size w w':=by
 obtain⟨a,w6,rfl,hc,hm,hn,H⟩:=Rs.open h;unfold maxLen at hm;have HC:=(show Hid _ from H);have oE:=lT w rfl;have x0:=aH (fQ _ w) (.cells #[] 55);have hl:=i6 U;have HK:Hid (∀(k:Nat)(K V A B D:Int),l[k]?=some (((K,V),(A,B)),D)->0<=K/\K<=3/\0<=V/\V<=99/\bM A B=true):=Bf U;have HA:Hid (aJ (cJ s l)<=39999600):=by have h1:=D4 s l;have h2:=oY U;show _<=_;omega
 clear H h U;go_enter Tryz.func188,Tryz.ntmps188;go_wp2_with fail
 go_loopw [5,6] (fun o i wr=>∃k:Nat,k<=l.length/\i=.int .i64 k/\aC wr w.heap.size o (cJ s (l.take k))/\fM w.heap.size w wr) (fun _ i _=>l.length-(intOf i).toNat)
 case atStart=>exact⟨0,by omega,rfl,by simpa[cJ]using oE,x0⟩
 case round=>
  clear oE x0;obtain⟨k,w4,rfl,S,O⟩:=hrel;have Q:Hid (aC wr w.heap.size u5 (cJ s (l.take k))):=S;have y6:(cJ s (l.take k)).length<=400:=by have:=qX s (l.take k);simp at this;omega
  clear S;have y2:=O.size
  by_cases y4:k<l.length
  ·obtain⟨g,off,K,V,A,B,D,rfl,hg,hr,c0,c1,c2,c3,c4⟩:=HC.out k y4;obtain⟨i1,i2,i3,i4,-⟩:=HK.out k _ _ _ _ _ hr;have w5:jK (K,V):=⟨i1,i2,i3,i4⟩;have ik:((k:Int)<(l.length:Int)):=by omega
   have d0:∀p:eC wr,p.ww.cell? ⟨g,off+k*5,none⟩=some (.int .i64 K):=fun p=>cB p.below (cB O c0);have d1:∀p:eC wr,p.ww.cell? ⟨g,off+k*5+1,none⟩=some (.int .i64 V):=fun p=>cB p.below (cB O c1);have C2:Hid (w.cell? ⟨g,off+k*5+2,none⟩=some (.int .i64 A)/\w.cell? ⟨g,off+k*5+3,none⟩=some (.int .i64 B)/\w.cell? ⟨g,off+k*5+4,none⟩=some (.int .i64 D)):=⟨c2,c3,c4⟩;have HR:=(show Hid _ from hr);have hne:=lG wr;clear c0 c1 c2 c3 c4 hr i1 i2 i3 i4;cases hP:cR s (K,V)
   ·have HZ:=(show Hid _ from Eh HR.out hP);go_wp2_with fail
    (refine lF (by kernel_rfl) (by kernel_rfl) ?_;(repeat (go_big_quiet_step ((first|(go_at_call 228;exact jS (F2 (by with_reducible assumption) (by with_reducible assumption) (by with_reducible assumption) _))))));refine wpQuiet_nil ?_)
    intro L G
    replace G:=kU G
    have J:=aG O G;have Z:Hid (aC L w.heap.size u5 (cJ s (l.take k))):=cC Q.out G;go_wp2_with fail;go_roundw
    case rel=>exact⟨k+1,by omega,by go_num,by rw[HZ.out];exact Z.out,J⟩
    case measure=>simp[intOf];omega
   ·have HZ:=(show Hid _ from D5 HR.out hP);go_wp2_with fail
    (refine lF (by kernel_rfl) (by kernel_rfl) ?_;(repeat (go_big_quiet_step ((first|(go_at_call 228;exact jS (F2 (by with_reducible assumption) (by with_reducible assumption) (by with_reducible assumption) _))))));refine wpQuiet_nil ?_)
    intro L G
    replace G:=kU G
    have J:=aG O G;have v9:=J.size;have Z:Hid (aC L w.heap.size u5 (cJ s (l.take k))):=cC Q.out G;have HX:Hid (∀W,fM w.heap.size w W->W.cell? ⟨g,off+k*5+2,none⟩=some (.int .i64 A)/\W.cell? ⟨g,off+k*5+3,none⟩=some (.int .i64 B)/\W.cell? ⟨g,off+k*5+4,none⟩=some (.int .i64 D)):=fun W hW=>
     ⟨cB hW C2.out.1,cB hW C2.out.2.1,cB hW C2.out.2.2⟩
    have I:fM w.heap.size w L.drew:=J.drew;have OD:Hid (aC L.drew w.heap.size u5 (cJ s (l.take k))):=cC Z.out (fQ _ _).drew;have y3:∀M:Obj,w.heap.size<=(L.drew.alloc M).heap.size:=fun M=>(aH I M).size;have eM:bC s (K,V)=((bC s (K,V)).1,(bC s (K,V)).2):=rfl;have HM:Hid (bC s (K,V)=((bC s (K,V)).1,(bC s (K,V)).2)):=eM;clear eM Q Z;generalize (bC s (K,V)).1=K2 at*;generalize (bC s (K,V)).2=V2 at*;generalize cJ s (l.take k)=LL at*;have y5:LL.length<=2000000:=by omega
    obtain⟨e2,e3,e4⟩:=HX.out _ J;have HG:Hid (∀(T:World)(M:Obj),(L.drew.alloc M).grownBy T u5.ownBlock->fM w.heap.size w T):=fun T M h3=>Below.aU (aH I _) h3 (aH I M).size (bU OD.out);go_wp2_with fail
    go_region_held3 (fun W=>W.cell? ⟨g,off+k*5+2,none⟩=some (.int .i64 A)/\W.cell? ⟨g,off+k*5+3,none⟩=some (.int .i64 B)/\W.cell? ⟨g,off+k*5+4,none⟩=some (.int .i64 D))
     (first|exact HX.out _ I|exact HX.out _ (aH I _)|exact HX.out _ x1)
     (first
      | (refine JU _ (by rfl) _ _ (by rfl) w.heap.size _ LL (by rfl) (OD.out.alloc _) _ K2 V2 A B D (by rfl) (Bk.new _ _ rfl) y5 (y3 _) ?_;intro g7 z9 T x2 Y w1;have x1:=HG.out _ _ Y))
    go_wp2_with fail;exact⟨⟨k+1,by omega,by go_num,by rw[HZ.out,HM.out];exact x2,x1⟩,by simp[intOf];omega⟩
  ·obtain rfl:k=l.length:=by omega
   rw[List.take_length]at Q y6;have R1:Rs wr u5 (cJ s l):=aC.rs Q.out (by omega);clear Q;go_wp2_with fail;refine (kY _ (cJ s l) _ R1 (by omega) (by have:=HA.out;omega)).mono ?_;rintro e w2 ⟨o2,rfl,R,y7⟩;have O2:Hid (aC w2 wr.heap.size o2 (aO aW (cJ s l))):=R;clear R;go_wp2_with fail;go_ret;exact⟨_,rfl,cW O2.out y2,aG O y7⟩
open Go.Shelf
theorem Ei (Y:Nat)(s:Int)(v:Value)(l:List Rw)(w:World)(h:Rs w v l)(hk:aZ l=true)(eg:∀args w,(callFunc Y args).run Tryz.prog w=.ok (.enter Y args) w)
  (S:∀(K V:Int)(W:World),0<=K->K<=3->0<=V->V<=99->Calls Tryz.prog Y #[.agg #[.int .i64 K,.int .i64 V]] W fun e O=>e=.returned (.tuple #[.agg #[.int .i64 (bC s (K,V)).1,.int .i64 (bC s (K,V)).2],.bool (cR s (K,V))])/\fM W.heap.size W O):
  Calls Tryz.prog 172 #[v,.func (.func Y) #[] #[]] w fun e O=>∃o:Value,e=.returned o/\aC O w.heap.size o (cJ s l)/\fM w.heap.size w O:=by
 have HW:Hid (∀(K V:Int)(W:World),0<=K->K<=3->0<=V->V<=99->Calls Tryz.prog Y #[.agg #[.int .i64 K,.int .i64 V]] W fun e O=>e=.returned (.tuple #[.agg #[.int .i64 (bC s (K,V)).1,.int .i64 (bC s (K,V)).2],.bool (cR s (K,V))])/\fM W.heap.size W O):=S;have hl:=i6 hk;have HK:Hid (∀(k:Nat)(K V A B D:Int),l[k]?=some (((K,V),(A,B)),D)->0<=K/\K<=3/\0<=V/\V<=99/\bM A B=true):=Bf hk;obtain⟨a,a3,rfl,hc,hm,hn,G⟩:=Rs.open h;unfold maxLen at hm;have HC:=(show Hid _ from G);clear G h hk S;go_enter Tryz.func172,Tryz.ntmps172;go_wp2_with fail
 go_loopw [5,12] (fun o i wr=>∃k:Nat,k<=l.length/\i=.int .i64 k/\aC wr w.heap.size o (cJ s (l.take k))/\fM w.heap.size w wr) (fun _ i _=>l.length-(intOf i).toNat)
 case atStart=>exact⟨0,by omega,rfl,by simpa[cJ]using oN iE 5 55 w w.heap.size,fQ _ _⟩
 case round=>
  obtain⟨k,a1,rfl,T,H⟩:=hrel;have HO:Hid (aC wr w.heap.size u5 (cJ s (l.take k))):=T;have a2:(cJ s (l.take k)).length<=400:=by have:=qX s (l.take k);simp at this;omega
  clear T
  by_cases x9:k<l.length
  ·obtain⟨g,off,K,V,A,B,D,rfl,hg,hr,c0,c1,c2,c3,c4⟩:=HC.out k x9;obtain⟨i1,i2,i3,i4,-⟩:=HK.out k _ _ _ _ _ hr;have d0:=cB H c0;have d1:=cB H c1;have d2:=cB H c2;have d3:=cB H c3;have d4:=cB H c4;have ik:((k:Int)<(l.length:Int)):=by omega
   have bx:=Bk.new (w:=wr) #[.int .i64 K,.int .i64 V,.int .i64 A,.int .i64 B,.int .i64 D] 55 rfl;have J:fM wr.heap.size wr (wr.alloc (.cells #[.int .i64 K,.int .i64 V,.int .i64 A,.int .i64 B,.int .i64 D] 55)):=aH (fQ _ _) _;have x0:=aG H J;have O1:Hid (aC (wr.alloc (.cells #[.int .i64 K,.int .i64 V,.int .i64 A,.int .i64 B,.int .i64 D] 55)) w.heap.size u5 (cJ s (l.take k))):=cC HO.out J;have x8:Hid (cR s (K,V)=true->cJ s (l.take (k+1))=cJ s (l.take k)++[((bC s (K,V),(A,B)),D)]):=fun hp=>D5 hr hp;have z3:Hid (cR s (K,V)=false->cJ s (l.take (k+1))=cJ s (l.take k)):=fun hp=>Eh hr hp;clear c0 c1 c2 c3 c4 hr J H HO
   go_upto_region 5 with fail
   clear d0 d1 d2 d3 d4;generalize wr.heap.size=tb at*;generalize World.alloc _ _=wx at*;obtain⟨q0,q1,q2,q3,q4⟩:=bx.ag;go_wp2_with fail;refine (HW.out K V _ i1 i2 i3 i4).mono ?_;rintro e I ⟨rfl,L⟩;have x2:=bx.keep L
   have O2:Hid (aC I w.heap.size u5 (cJ s (l.take k))):=cC O1.out L
   have x1:=aG x0 L
   have HM:Hid (bC s (K,V)=((bC s (K,V)).1,(bC s (K,V)).2)):=rfl;clear q0 q1 q2 q3 q4 bx x0 L O1;generalize (bC s (K,V)).1=R at*;generalize (bC s (K,V)).2=Q at*;generalize hP:cR s (K,V)=r at*;clear hP;have y7:=Bk.new (w:=I) #[.int .i64 R,.int .i64 Q] 131 rfl;have M:fM I.heap.size I (I.alloc (.cells #[.int .i64 R,.int .i64 Q] 131)):=aH (fQ _ _) _;have bz:=x2.keep M;have U:=aG x1 M;have O3:Hid (aC (I.alloc (.cells #[.int .i64 R,.int .i64 Q] 131)) w.heap.size u5 (cJ s (l.take k))):=cC O2.out M
   go_upto_region 6 with fail
   clear x2 x1 M O2;generalize I.heap.size=ub at*;generalize World.alloc _ _=wt at*;cases r
   ·have HZ:Hid (cJ s (l.take (k+1))=cJ s (l.take k)):=z3.out rfl;go_wp2_with fail;go_roundw
    case rel=>exact⟨k+1,by omega,by go_num,(by rw[HZ.out];exact O3.out),U⟩
    case measure=>simp[intOf];omega
   ·have HZ:Hid (cJ s (l.take (k+1))=cJ s (l.take k)++[(((R,Q),(A,B)),D)]):=by show _=_;rw[x8.out rfl,HM.out]
    obtain⟨y0,y1,y2,y3,y4⟩:=bz.ag;obtain⟨t0,t1,_,_⟩:=y7.two;have w9:=U.size;have O4:=O3.out.alloc (.cells #[.int .i64 R,.int .i64 Q,.int .i64 A,.int .i64 B,.int .i64 D] 55);clear O3;generalize hE:cJ s (l.take k)=EL at*
    go_wp2_with (at_builtin;refine kR _ rfl _ _ rfl w.heap.size _ EL rfl O4 _ R Q A B D rfl (Bk.new _ _ rfl) (by omega) (by simp;omega) ?_;intro g7 w1 w7 x3 Z a0)
    have y5:fM w.heap.size w w7:=Below.aU (aH U _) Z (by simp;omega) (bU O4);go_roundw
    case rel=>exact⟨k+1,by omega,by go_num,by rw[HZ.out];exact x3,y5⟩
    case measure=>simp[intOf];omega
  ·obtain rfl:k=l.length:=by omega
   rw[List.take_length]at HO;have ik:¬((l.length:Int)<(l.length:Int)):=by omega
   go_wp2_with fail;go_ret;exact⟨_,rfl,HO.out,H⟩
end Go.Proofs.YtbdpcngcbnoioaaGreatDoor
