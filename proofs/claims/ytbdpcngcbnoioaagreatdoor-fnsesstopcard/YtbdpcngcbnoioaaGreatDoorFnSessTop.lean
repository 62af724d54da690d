/- For all bytes: SessAt of the program answers of the plan at work and the time that they draw as the model; where that is ok, what it tells of any time that is settled is what PlanSet makes of all that came in till then; the argument reads afterwards as before. No condition. -/
import Derived.Test.YtbdpcngcbnoioaaGreatDoorGlk
import Derived.Test.YtbdpcngcbnoioaaGreatDoorPfd
import Derived.Test.YtbdpcngcbnoioaaGreatDoorCards
import Derived.SevenTiedAt
import Derived.Test.YtbdpcngcbnoioaaGreatDoorGp1
import Derived.Test.YtbdpcngcbnoioaaGreatDoorQc7
import Derived.Test.YtbdpcngcbnoioaaGreatDoorQe2
import Derived.Test.YtbdpcngcbnoioaaGreatDoorTie
import Derived.ChangeSame
import Derived.ChangeVars
import Derived.RowKit
import Derived.LaidLaws
import Derived.LaidHandle
import Derived.Stop.Joined
import Derived.Stop.LaidErr
set_option maxRecDepth 100000
set_option maxHeartbeats 16000000
namespace Go.Proofs.YtbdpcngcbnoioaaGreatDoor
open Go.RowKit Go.Shelf
open Go.Proofs.Tryz renaming prog->fM,f3->fQ,underlying163->gD,func3->gM,checked->gQ,underlying22->gX,params3->iM,ntmps3->iP
open Go.Proofs.YtbdpcngcbnoioaaGreatDoor.Rows renaming fnSessTopRow->jB,fnSessTopSpec->jO
open Go.RowKit renaming Below->mO
open Go.RowKit.Below renaming refl->nA
open Go renaming World->nB,Value->nX
theorem wX (v:nX)(K:List (List Rw))(X Y:Int)(w:nB)(h:eS w v K)(hl:K.length<=2):
  Calls fM 21 #[v,tv X Y] w fun e w'=>∃o:nX,e=.returned o/\kE w' o (K.map fun l=>aM l X Y)/\mO w.heap.size w w':=by
 have HH:=(show Hid (eS w v K) from h);obtain⟨a,a1,rfl,hc,hm,hn,-⟩:=h.open;unfold maxLen at hm;have S:Bk ((w.alloc (.cells #[.int .i64 X,.int .i64 Y] 32)).alloc (.cells #[] 35)) w.heap.size #[.int .i64 X,.int .i64 Y] 32:=(Bk.new _ _ rfl).alloc _;have oV:jW ((w.alloc (.cells #[.int .i64 X,.int .i64 Y] 32)).alloc (.cells #[] 35)) (w.heap.size+1) (.slice (some ⟨w.heap.size+1,0,none⟩) 0 0) []:=Gn _ (by simp);have x6:mO w.heap.size w ((w.alloc (.cells #[.int .i64 X,.int .i64 Y] 32)).alloc (.cells #[] 35)):=aH (aH (nA _ _) _) _;clear h;go_enter Tryz.func21,Tryz.ntmps21;go_wp2_with fail
 go_loopw [5,6] (fun o i wr=>∃(k:Nat)(vs:List nX),k<=K.length/\i=.int .i64 k/\jW wr (w.heap.size+1) o vs/\nU wr (w.heap.size+1) vs ((K.take k).map fun l=>aM l X Y)/\Bk wr w.heap.size #[.int .i64 X,.int .i64 Y] 32/\mO w.heap.size w wr) (fun _ i _=>K.length-(intOf i).toNat)
 case atStart=>exact⟨0,[],by omega,rfl,oV,nU.nil _ _,S,x6⟩
 case round=>
  clear x6 oV S;obtain⟨k,vs,w6,rfl,V,h9,S,hb⟩:=hrel;have HO:=(show Hid (jW wr (w.heap.size+1) u5 vs) from V);have HE:=(show Hid (nU wr (w.heap.size+1) vs ((K.take k).map fun l=>aM l X Y)) from h9);have HV:Hid (vs.length=k):=by show _=_;rw[h9.1,List.length_map,List.length_take];omega
  have w4:=hb.size;have a0:=S.lt;clear V h9
  by_cases z0:k<K.length
  ·obtain⟨l,Z⟩:∃l,K[k]?=some l:=⟨_,List.getElem?_eq_getElem z0⟩;obtain⟨a',v7,e',-,-,-,Q⟩:=HH.out.open;cases e';obtain⟨g,off,ad,cp,rfl,hg,x3,x7⟩:=Q k l Z;have c0:=cB hb x3;have hR:=x7.keep hb;have v2:=(show Hid (w.cell? ⟨g,off+k,none⟩=some (.slice ad l.length cp)) from x3);have ik:((k:Int)<(K.length:Int)):=by omega
   have HL:=(show Hid (K[k]?=some l) from Z);obtain⟨t0,t1,_,_⟩:=S.two;have O:mO wr.heap.size wr wr.drew:=(nA _ _).drew;have HX:Hid (∀W,mO wr.heap.size wr W->W.cell? ⟨g,off+k,none⟩=some (.slice ad l.length cp)/\W.cell? ⟨w.heap.size,0,none⟩=some (.int .i64 X)/\W.cell? ⟨w.heap.size,1,none⟩=some (.int .i64 Y)):=fun W hW=>⟨cB hW c0,cB hW t0,cB hW t1⟩;have rD:=hR.keep O;have y8:=qZ l X Y;have HC:Hid (∀(T:nX)(s:nB),aQ s wr.drew.heap.size T (aM l X Y)->mO wr.drew.heap.size wr.drew s->∃(A:Option Addr)(c7:Nat),T=.slice A (aM l X Y).length c7/\mO wr.heap.size wr s /\
     mO wr.heap.size wr (s.alloc (.cells #[.slice A (aM l X Y).length c7] 35))/\Bk (s.alloc (.cells #[.slice A (aM l X Y).length c7] 35)) s.heap.size #[.slice A (aM l X Y).length c7] 35/\jW (s.alloc (.cells #[.slice A (aM l X Y).length c7] 35)) (w.heap.size+1) u5 vs/\nU (s.alloc (.cells #[.slice A (aM l X Y).length c7] 35)) (w.heap.size+1) (vs++[.slice A (aM l X Y).length c7]) ((K.take (k+1)).map fun l=>aM l X Y)/\w.heap.size+1<=(s.alloc (.cells #[.slice A (aM l X Y).length c7] 35)).heap.size):=fun T s G x1=>by
    have x0:mO wr.heap.size wr s:=aG O x1;obtain⟨A,c7,e7,-⟩:=Is.open (aQ.is G (by omega));subst e7;have x5:mO s.heap.size s (s.alloc (.cells #[.slice A (aM l X Y).length c7] 35)):=aH (nA _ _) _;have I:=aG x0 x5;refine⟨A,c7,rfl,x0,I,Bk.new _ _ rfl,cC HO.out I,?_,by have:=I.size;omega⟩;rw[fK HL.out,List.map_append];exact (HE.out.keep I).snoc (cC (cW G (by show _<=wr.heap.size;omega)) x5) (Nat.le_trans y8 (by decide))
   have HD:Hid (∀(w8 B:nB),mO wr.heap.size wr w8->jW w8 (w.heap.size+1) u5 vs->w.heap.size+1<=w8.heap.size->w8.grownBy B u5.ownBlock->mO w.heap.size w B/\Bk B w.heap.size #[.int .i64 X,.int .i64 Y] 32/\(B.cell? ⟨g,off+k,none⟩=some (.slice ad l.length cp)/\B.cell? ⟨w.heap.size,0,none⟩=some (.int .i64 X)/\B.cell? ⟨w.heap.size,1,none⟩=some (.int .i64 Y))):=fun w8 B L D U J=>by
    have R:mO w.heap.size w B:=Below.aU (aG hb L) J (by omega) (fun q e=>by have:=bU D q e;omega);have M:Bk B w.heap.size #[.int .i64 X,.int .i64 Y] 32:=Bk.aU (S.keep L) J (fun q e=>by have:=bU D q e;omega);exact⟨R,M,cB R v2.out,M.two.1,M.two.2.1⟩
   have x9:vs.length<=2000000:=by have:=HV.out;omega
   clear Q Z c0 t0 t1 x3 x7 hR;go_wp2_with fail
   go_region_held3 (fun W=>W.cell? ⟨g,off+k,none⟩=some (.slice ad l.length cp)/\W.cell? ⟨w.heap.size,0,none⟩=some (.int .i64 X)/\W.cell? ⟨w.heap.size,1,none⟩=some (.int .i64 Y))
    (first|exact HX.out _ O|exact HX.out _ z1|exact HX.out _ L|exact z9)
    (first
     | (go_at_call 41;with_reducible refine (wO _ l X Y _ rD).mono ?_;rintro e s ⟨T,rfl,G,x1⟩;obtain⟨A,c7,e7,z1,L,z8,D,z5,U⟩:=HC.out T s G x1;subst e7)
     | (refine QM _ (by rfl) _ _ (by rfl) (w.heap.size+1) _ vs (by rfl) D _ _ _ _ (by rfl) z8 x9 U ?_;intro g9 v6 B x8 J w5;obtain⟨R,M,z9⟩:=HD.out _ B L D U J;have z4:=z5.aU D J))
   all_goals
    go_wp2_with fail;go_roundw
    case rel=>exact⟨k+1,_,by omega,by go_num,x8,z4,M,R⟩
    case measure=>simp[intOf];omega
  ·obtain rfl:k=K.length:=by omega
   rw[List.take_length]at HE;have ik:¬((K.length:Int)<(K.length:Int)):=by omega
   have LK:=(show Hid _ from HE.out.ly HO.out (by have:=HV.out;omega));go_wp2_with fail;go_ret;exact⟨_,rfl,LK.out,hb⟩
theorem QF:fM.mainIs=some (true,wB):=by
 unfold Program.mainIs;rw[init_is,String.toList_ofList,words_cons wA _ (by decide +kernel),words_cons wB _ (by decide +kernel)];have h1:(!isSumSigns wB)=false:=by decide +kernel
 have h2:(wA == "harness".toList)=true:=by decide +kernel
 simp only[h1,h2,if_true,Bool.false_eq_true,if_false]
theorem PC:true=fM.looks []:=by kernel_rfl
theorem iH {a b:Bool}(h:a=true)(k:b=true):(a&&b)=true:=by rw[h,k];rfl
theorem P9 {x:Bool}(h:x=false):(x==fM.liftsFinal)=true:=by rw[pfLift,h];rfl
theorem PD {x:Make}(h:x=.cut):(fM.make==some x)=true:=by rw[pfMake,h];decide
set_option maxRecDepth 100000
set_option maxHeartbeats 8000000
open Go.RowKit
namespace FnSessTop
theorem walk (ea:Addr)(x0:Option Addr)(i4 m2:Nat)(w:nB)(h0:Src w (.slice x0 i4 m2) i4)(hg:w.cell? ⟨0,0,none⟩=some (gJ ea)):
  Calls fM 3 #[.slice x0 i4 m2] w fun e w'=>e=.returned (.bool true)/\mO w.heap.size w w':=by
 by_cases g0:(1048576:Int)<(i4:Int)
 ·go_enter gM,iP;go_wp2_with fail;go_ret;exact⟨rfl,nA _ _⟩
 go_enter gM,iP;go_wp2_with fail;refine (Bw _ _ _ _ h0).mono ?_;rintro e w1 ⟨s,r7,r8,t0,t1,x,y,rfl,l8,m4,p0⟩;have m0:=p0;clear h0 p0;obtain⟨a0,a1,D,B,a4,a5,a6,Z,rfl,rfl,rfl,rfl⟩:=m4.sl;have HM:=(show Hid (s.t.sm) from l8.sm);have b6:=(show Hid (Aq s) from l8);clear l8;have l1:mO w1.heap.size w1 (w1.alloc (.cells (sc s.t.k s.t.n (.slice a0 s.t.len a1) (.slice D s.K.length B) (.slice a4 s.f.length a5) (.slice a6 s.d.length Z)) 30)):=aH (nA _ _) _;have o1:Bk (w1.alloc (.cells (sc s.t.k s.t.n (.slice a0 s.t.len a1) (.slice D s.K.length B) (.slice a4 s.f.length a5) (.slice a6 s.d.length Z)) 30)) w1.heap.size (sc s.t.k s.t.n (.slice a0 s.t.len a1) (.slice D s.K.length B) (.slice a4 s.f.length a5) (.slice a6 s.d.length Z)) 30:=Bk.new _ _ rfl;have p1:=m4.keep l1;have l9:=aG m0 l1;clear m4 m0 l1;have i5:mO (w1.alloc (.cells (sc s.t.k s.t.n (.slice a0 s.t.len a1) (.slice D s.K.length B) (.slice a4 s.f.length a5) (.slice a6 s.d.length Z)) 30)).heap.size (w1.alloc (.cells (sc s.t.k s.t.n (.slice a0 s.t.len a1) (.slice D s.K.length B) (.slice a4 s.f.length a5) (.slice a6 s.d.length Z)) 30)) ((w1.alloc (.cells (sc s.t.k s.t.n (.slice a0 s.t.len a1) (.slice D s.K.length B) (.slice a4 s.f.length a5) (.slice a6 s.d.length Z)) 30)).alloc (.cells #[.int .i64 x,.int .i64 y] 32)):=aH (nA _ _) _;have b3:Bk ((w1.alloc (.cells (sc s.t.k s.t.n (.slice a0 s.t.len a1) (.slice D s.K.length B) (.slice a4 s.f.length a5) (.slice a6 s.d.length Z)) 30)).alloc (.cells #[.int .i64 x,.int .i64 y] 32)) (w1.heap.size+1) #[.int .i64 x,.int .i64 y] 32:=Bk.new _ _ (by first|rfl|simp)
 have d8:=p1.keep i5;have b5:=o1.keep i5;have i8:=aG l9 i5;clear p1 o1 l9 i5
 rcases hat:j9 s x y with _|L
 ·have k7:=(show Hid (j9 s x y=none) from hat);clear hat;obtain⟨i2,g8,g4,f9,f5,f1⟩:=b5.ae;obtain⟨e7,e3,_,_⟩:=b3.two;go_wp2_with fail;clear i2 g8 g4 f9 f5 f1 e7 e3;refine (LU k7.out d8).mono ?_;rintro e w4 ⟨u0,u1,rfl,j5,z8⟩;have d3:=d8.keep z8;have w2:=b5.keep z8;have v8:=b3.keep z8;have v5:=aG i8 z8;clear d8 b5 b3 i8 z8;obtain⟨i1,g7,g3,f8,f4,f0⟩:=w2.ae;obtain⟨e6,e2,_,_⟩:=v8.two;go_wp2_with fail;clear i1 g7 g3 f8 f4 f0 e6 e2;refine (uX ea k7.out HM.out d3 (cB v5 hg)).mono ?_;rintro e w5 ⟨v0,v1,rfl,b9,x7⟩;have k0:=d3.keep x7;have v9:=w2.keep x7;have v7:=v8.keep x7;have c4:=j5.keep x7;have b7:=aG v5 x7;clear d3 w2 v8 j5 v5 x7;obtain⟨i0,g6,g2,f7,f3,e9⟩:=v9.ae;obtain⟨e5,e1,_,_⟩:=v7.two;go_wp2_with fail;clear i0 g6 g2 f7 f3 e9 e5 e1;refine (nN (EF _) b9 c4).mono ?_;rintro e w6 ⟨rfl,U⟩;have y0:=k0.keep U;have M:=v9.keep U;have I:=v7.keep U;have b1:=c4.keep U;have b0:=b9.keep U;have z1:=aG b7 U;clear k0 v9 v7 c4 b9 b7 U
  rcases ha:dI s with _|r
  ·have d5:Hid ((dI s).isSome=false):=by show _=_;rw[ha];rfl
   clear ha;obtain⟨y8,y7,y6,y5,y4,y3⟩:=M.ae;obtain⟨y2,y1,_,_⟩:=I.two;go_wp2_with fail;clear y8 y7 y6 y5 y4 y3 y2 y1;refine (dC d5.out y0).mono ?_;rintro e w7 ⟨rfl,g⟩;have z9:=y0.keep g;have J:=M.keep g;have G:=I.keep g;have x9:=b1.keep g;have x8:=b0.keep g;have Q:=aG z1 g;clear y0 M I b1 b0 z1 g;obtain⟨g9,g5,g1,f6,f2,e8⟩:=J.ae;obtain⟨e4,d9,_,_⟩:=G.two;go_wp2_with fail;clear g9 g5 g1 f6 f2 e8 e4 d9;refine (nN (EF _) x8 x9).mono ?_;rintro e w8 ⟨rfl,a⟩;have d0:=z9.keep a;have z4:=J.keep a;have v6:=G.keep a;have j4:=x9.keep a;have j3:=x8.keep a;have z0:=aG Q a;clear z9 J G x9 x8 Q a;obtain⟨o9,o8,o7,o6,o5,o4⟩:=z4.ae;obtain⟨o3,o2,_,_⟩:=v6.two;go_wp2_with fail;go_ret;exact⟨rfl,z0⟩
  ·have o0:=(show Hid (dI s=some r) from ha);have d5:Hid ((dI s).isSome=true):=by show _=_;rw[ha];rfl
   have n6:Hid (dK s.t s.K=some r):=(fW.1 ha).2.1;clear ha;obtain⟨y8,y7,y6,y5,y4,y3⟩:=M.ae;obtain⟨y2,y1,_,_⟩:=I.two;go_wp2_with fail;clear y8 y7 y6 y5 y4 y3 y2 y1;refine (dC d5.out y0).mono ?_;rintro e w7 ⟨rfl,g⟩;have z9:=y0.keep g;have J:=M.keep g;have G:=I.keep g;have x9:=b1.keep g;have x8:=b0.keep g;have Q:=aG z1 g;clear y0 M I b1 b0 z1 g;go_wp2_with fail;refine (DR _).mono ?_;rintro e w8 ⟨ga,q1,rfl,w9,q4,a⟩;have HA:=(show Hid _ from w9);clear w9;have d0:=z9.keep a;have z4:=J.keep a;have v6:=G.keep a;have j4:=x9.keep a;have j3:=x8.keep a;have z0:=aG Q a;clear z9 J G x9 x8 Q a;have j2:s.K.length<=2:=by have:=b6.out.two;omega
   have HC:Hid (∀V:nB,mO w8.heap.size w8 V->(V.cell? ⟨w1.heap.size,0,none⟩=some (.int .i64 s.t.k)/\V.cell? ⟨w1.heap.size,1,none⟩=some (.int .i64 s.t.n)/\V.cell? ⟨w1.heap.size,2,none⟩=some (.slice a0 s.t.len a1)/\V.cell? ⟨w1.heap.size,3,none⟩=some (.slice D s.K.length B)/\V.cell? ⟨w1.heap.size,4,none⟩=some (.slice a4 s.f.length a5)/\V.cell? ⟨w1.heap.size,5,none⟩=some (.slice a6 s.d.length Z))/\gE V (.slice a0 s.t.len a1) (.slice D s.K.length B) (.slice a4 s.f.length a5) (.slice a6 s.d.length Z) s/\V.cell? ⟨0,0,none⟩=some (gJ ea)):=fun V hV=>⟨(z4.keep hV).ae,d0.keep hV,cB (aG z0 hV) hg⟩;clear z4 v6 d0 j3 j4;go_wp2_with fail
   go_loopw [10] (fun i wr=>∃k:Nat,k<=64/\i=.int .i64 k/\mO w8.heap.size w8 wr) (fun i _=>64-(intOf i).toNat)
   case atStart=>exact⟨0,by omega,rfl,nA _ _⟩
   obtain⟨k,p5,rfl,hb⟩:=hrel
   by_cases l7:k<64
   ·obtain⟨c0,c1⟩:=Cs HA.out l7;have m5:Hid (bM ((k / 8:Nat):Int) ((k%8:Nat):Int)=true):=by show _=_;simp[bM];omega
    have HX:Hid (∀V,mO w8.heap.size w8 V->(V.cell? ⟨w1.heap.size,0,none⟩=some (.int .i64 s.t.k)/\V.cell? ⟨w1.heap.size,1,none⟩=some (.int .i64 s.t.n)/\V.cell? ⟨w1.heap.size,2,none⟩=some (.slice a0 s.t.len a1)/\V.cell? ⟨w1.heap.size,3,none⟩=some (.slice D s.K.length B)/\V.cell? ⟨w1.heap.size,4,none⟩=some (.slice a4 s.f.length a5)/\V.cell? ⟨w1.heap.size,5,none⟩=some (.slice a6 s.d.length Z))/\V.cell? ⟨ga,k*2,none⟩=some (.int .i64 ((k / 8:Nat):Int))/\V.cell? ⟨ga,k*2+1,none⟩=some (.int .i64 ((k%8:Nat):Int))):=
     fun V hW=>⟨(HC.out V hW).1,cB hW c0,cB hW c1⟩
    have ik:(k:Int)<64:=by omega
    clear c0 c1;generalize hX:((k / 8:Nat):Int)=X at*;generalize hY:((k%8:Nat):Int)=Y at*;clear hX hY;have k4:Hid (gV s.t (s.K.map fun l=>aM l X Y)=some (aM r X Y)):=A0 n6.out m5.out;have k5:Hid (∀l∈s.K.map (fun l=>aM l X Y),aJ l<=1089):=Az b6.out.abs X Y;have O:=hb.drew;have k1:Hid (gE wr.drew (.slice a0 s.t.len a1) (.slice D s.K.length B) (.slice a4 s.f.length a5) (.slice a6 s.d.length Z) s):=(HC.out _ O).2.1;have k3:=(HC.out _ O).2.2
    rcases hat:j9 s X Y with _|L'
    ·have d6:=(show Hid (j9 s X Y=none) from hat);clear hat;go_wp2_with fail
     go_region_held3 (fun V=>(V.cell? ⟨w1.heap.size,0,none⟩=some (.int .i64 s.t.k)/\V.cell? ⟨w1.heap.size,1,none⟩=some (.int .i64 s.t.n)/\V.cell? ⟨w1.heap.size,2,none⟩=some (.slice a0 s.t.len a1)/\V.cell? ⟨w1.heap.size,3,none⟩=some (.slice D s.K.length B)/\V.cell? ⟨w1.heap.size,4,none⟩=some (.slice a4 s.f.length a5)/\V.cell? ⟨w1.heap.size,5,none⟩=some (.slice a6 s.d.length Z))/\V.cell? ⟨ga,k*2,none⟩=some (.int .i64 X)/\V.cell? ⟨ga,k*2+1,none⟩=some (.int .i64 Y))
      (first|exact HX.out _ O|exact HX.out _ S)
      (first
       | (go_at_call 16;with_reducible refine (uX ea d6.out HM.out k1.out k3).mono ?_;rintro e wa ⟨oA,cA,rfl,z7,b8⟩;have S:mO w8.heap.size w8 wa:=aG O b8))
     all_goals
      have T:=S.drew;have d4:Hid (eS wa.drew (.slice D s.K.length B) s.K):=(HC.out _ T).2.1.ly;have k2:=(show Hid (Is wa (.slice oA 0 cA) []) from z7);clear O hb z7;go_wp2_with fail
      go_region_held3 (fun V=>(V.cell? ⟨w1.heap.size,0,none⟩=some (.int .i64 s.t.k)/\V.cell? ⟨w1.heap.size,1,none⟩=some (.int .i64 s.t.n)/\V.cell? ⟨w1.heap.size,2,none⟩=some (.slice a0 s.t.len a1)/\V.cell? ⟨w1.heap.size,3,none⟩=some (.slice D s.K.length B)/\V.cell? ⟨w1.heap.size,4,none⟩=some (.slice a4 s.f.length a5)/\V.cell? ⟨w1.heap.size,5,none⟩=some (.slice a6 s.d.length Z))/\V.cell? ⟨ga,k*2,none⟩=some (.int .i64 X)/\V.cell? ⟨ga,k*2+1,none⟩=some (.int .i64 Y))
       (first|exact HX.out _ T|exact HX.out _ A|exact HX.out _ R)
       (first
        | (go_at_call 21;with_reducible refine (wX _ s.K X Y _ d4.out j2).mono ?_;rintro e wb ⟨oB,rfl,z5,a9⟩;have A:mO w8.heap.size w8 wb:=aG T a9;have v2:=(HC.out _ A).2.1.kd;have v3:=(HC.out _ A).2.2)
        | (go_at_call 20;refine (q9 ea k4.out b6.out.pok k5.out HM.out v2 z5 v3).mono ?_;rintro e wc ⟨oC,rfl,w3,a8⟩;have R:mO w8.heap.size w8 wc:=aG A a8))
      all_goals
       clear w3 z5 v2 v3;go_wp2_with fail;go_roundw
       case rel=>exact⟨k+1,by omega,by go_num,R⟩
       case measure=>simp[intOf];omega
    ·have d6:=(show Hid (j9 s X Y=some L') from hat);have n3:Hid (L'=aM r X Y):=ES hat o0.out;clear hat;go_wp2_with fail
     go_region_held3 (fun V=>(V.cell? ⟨w1.heap.size,0,none⟩=some (.int .i64 s.t.k)/\V.cell? ⟨w1.heap.size,1,none⟩=some (.int .i64 s.t.n)/\V.cell? ⟨w1.heap.size,2,none⟩=some (.slice a0 s.t.len a1)/\V.cell? ⟨w1.heap.size,3,none⟩=some (.slice D s.K.length B)/\V.cell? ⟨w1.heap.size,4,none⟩=some (.slice a4 s.f.length a5)/\V.cell? ⟨w1.heap.size,5,none⟩=some (.slice a6 s.d.length Z))/\V.cell? ⟨ga,k*2,none⟩=some (.int .i64 X)/\V.cell? ⟨ga,k*2+1,none⟩=some (.int .i64 Y))
      (first|exact HX.out _ O|exact HX.out _ S)
      (first
       | (go_at_call 16;with_reducible refine (wQ ea d6.out HM.out k1.out k3).mono ?_;rintro e wa ⟨oA,cA,rfl,z7,b8⟩;have S:mO w8.heap.size w8 wa:=aG O b8))
     all_goals
      have T:=S.drew;have d4:Hid (eS wa.drew (.slice D s.K.length B) s.K):=(HC.out _ T).2.1.ly;have k2:=(show Hid (Is wa (.slice oA L'.length cA) L') from z7);clear O hb z7;go_wp2_with fail
      go_region_held3 (fun V=>(V.cell? ⟨w1.heap.size,0,none⟩=some (.int .i64 s.t.k)/\V.cell? ⟨w1.heap.size,1,none⟩=some (.int .i64 s.t.n)/\V.cell? ⟨w1.heap.size,2,none⟩=some (.slice a0 s.t.len a1)/\V.cell? ⟨w1.heap.size,3,none⟩=some (.slice D s.K.length B)/\V.cell? ⟨w1.heap.size,4,none⟩=some (.slice a4 s.f.length a5)/\V.cell? ⟨w1.heap.size,5,none⟩=some (.slice a6 s.d.length Z))/\V.cell? ⟨ga,k*2,none⟩=some (.int .i64 X)/\V.cell? ⟨ga,k*2+1,none⟩=some (.int .i64 Y))
       (first|exact HX.out _ T|exact HX.out _ A|exact HX.out _ R)
       (first
        | (go_at_call 21;with_reducible refine (wX _ s.K X Y _ d4.out j2).mono ?_;rintro e wb ⟨oB,rfl,z5,a9⟩;have A:mO w8.heap.size w8 wb:=aG T a9;have v2:=(HC.out _ A).2.1.kd;have v3:=(HC.out _ A).2.2)
        | (go_at_call 20;refine (q9 ea k4.out b6.out.pok k5.out HM.out v2 z5 v3).mono ?_;rintro e wc ⟨oC,rfl,w3,a8⟩;have R:mO w8.heap.size w8 wc:=aG A a8))
      all_goals
       have n5:=(show Hid (Is wc oC (aM r X Y)) from w3);have n4:=(show Hid (Is wc (.slice oA L'.length cA) L') from pD.keep (pD.keep (pD.keep k2.out (nA _ _).drew) a9) a8);clear w3 z5 v2 v3;go_wp2_with fail;refine (nN (decide_eq_true n3.out) n4.out n5.out).mono ?_;rintro e wd ⟨rfl,m1⟩;have l3:mO w8.heap.size w8 wd:=aG R m1;go_wp2_with fail;go_roundw
       case rel=>exact⟨k+1,by omega,by go_num,l3⟩
       case measure=>simp[intOf];omega
   obtain rfl:k=64:=by omega
   have l2:=aG z0 hb;go_wp2_with fail;go_ret;exact⟨rfl,l2⟩
 ·have k7:=(show Hid (j9 s x y=some L) from hat);clear hat;obtain⟨i2,g8,g4,f9,f5,f1⟩:=b5.ae;obtain⟨e7,e3,_,_⟩:=b3.two;go_wp2_with fail;clear i2 g8 g4 f9 f5 f1 e7 e3;refine (JQ k7.out d8).mono ?_;rintro e w4 ⟨u0,u1,rfl,j5,z8⟩;have d3:=d8.keep z8;have w2:=b5.keep z8;have v8:=b3.keep z8;have v5:=aG i8 z8;clear d8 b5 b3 i8 z8;obtain⟨i1,g7,g3,f8,f4,f0⟩:=w2.ae;obtain⟨e6,e2,_,_⟩:=v8.two;go_wp2_with fail;clear i1 g7 g3 f8 f4 f0 e6 e2;refine (wQ ea k7.out HM.out d3 (cB v5 hg)).mono ?_;rintro e w5 ⟨v0,v1,rfl,b9,x7⟩;have k0:=d3.keep x7;have v9:=w2.keep x7;have v7:=v8.keep x7;have c4:=j5.keep x7;have b7:=aG v5 x7;clear d3 w2 v8 j5 v5 x7;obtain⟨i0,g6,g2,f7,f3,e9⟩:=v9.ae;obtain⟨e5,e1,_,_⟩:=v7.two;go_wp2_with fail;clear i0 g6 g2 f7 f3 e9 e5 e1;refine (nN (EF _) b9 c4).mono ?_;rintro e w6 ⟨rfl,U⟩;have y0:=k0.keep U;have M:=v9.keep U;have I:=v7.keep U;have b1:=c4.keep U;have b0:=b9.keep U;have z1:=aG b7 U;clear k0 v9 v7 c4 b9 b7 U
  rcases ha:dI s with _|r
  ·have d5:Hid ((dI s).isSome=false):=by show _=_;rw[ha];rfl
   clear ha;obtain⟨y8,y7,y6,y5,y4,y3⟩:=M.ae;obtain⟨y2,y1,_,_⟩:=I.two;go_wp2_with fail;clear y8 y7 y6 y5 y4 y3 y2 y1;refine (dC d5.out y0).mono ?_;rintro e w7 ⟨rfl,g⟩;have z9:=y0.keep g;have J:=M.keep g;have G:=I.keep g;have x9:=b1.keep g;have x8:=b0.keep g;have Q:=aG z1 g;clear y0 M I b1 b0 z1 g;obtain⟨g9,g5,g1,f6,f2,e8⟩:=J.ae;obtain⟨e4,d9,_,_⟩:=G.two;go_wp2_with fail;clear g9 g5 g1 f6 f2 e8 e4 d9;refine (nN (EF _) x8 x9).mono ?_;rintro e w8 ⟨rfl,a⟩;have d0:=z9.keep a;have z4:=J.keep a;have v6:=G.keep a;have j4:=x9.keep a;have j3:=x8.keep a;have z0:=aG Q a;clear z9 J G x9 x8 Q a;obtain⟨o9,o8,o7,o6,o5,o4⟩:=z4.ae;obtain⟨o3,o2,_,_⟩:=v6.two;go_wp2_with fail;go_ret;exact⟨rfl,z0⟩
  ·have o0:=(show Hid (dI s=some r) from ha);have d5:Hid ((dI s).isSome=true):=by show _=_;rw[ha];rfl
   have n6:Hid (dK s.t s.K=some r):=(fW.1 ha).2.1;clear ha;obtain⟨y8,y7,y6,y5,y4,y3⟩:=M.ae;obtain⟨y2,y1,_,_⟩:=I.two;go_wp2_with fail;clear y8 y7 y6 y5 y4 y3 y2 y1;refine (dC d5.out y0).mono ?_;rintro e w7 ⟨rfl,g⟩;have z9:=y0.keep g;have J:=M.keep g;have G:=I.keep g;have x9:=b1.keep g;have x8:=b0.keep g;have Q:=aG z1 g;clear y0 M I b1 b0 z1 g;go_wp2_with fail;refine (DR _).mono ?_;rintro e w8 ⟨ga,q1,rfl,w9,q4,a⟩;have HA:=(show Hid _ from w9);clear w9;have d0:=z9.keep a;have z4:=J.keep a;have v6:=G.keep a;have j4:=x9.keep a;have j3:=x8.keep a;have z0:=aG Q a;clear z9 J G x9 x8 Q a;have j2:s.K.length<=2:=by have:=b6.out.two;omega
   have HC:Hid (∀V:nB,mO w8.heap.size w8 V->(V.cell? ⟨w1.heap.size,0,none⟩=some (.int .i64 s.t.k)/\V.cell? ⟨w1.heap.size,1,none⟩=some (.int .i64 s.t.n)/\V.cell? ⟨w1.heap.size,2,none⟩=some (.slice a0 s.t.len a1)/\V.cell? ⟨w1.heap.size,3,none⟩=some (.slice D s.K.length B)/\V.cell? ⟨w1.heap.size,4,none⟩=some (.slice a4 s.f.length a5)/\V.cell? ⟨w1.heap.size,5,none⟩=some (.slice a6 s.d.length Z))/\gE V (.slice a0 s.t.len a1) (.slice D s.K.length B) (.slice a4 s.f.length a5) (.slice a6 s.d.length Z) s/\V.cell? ⟨0,0,none⟩=some (gJ ea)):=fun V hV=>⟨(z4.keep hV).ae,d0.keep hV,cB (aG z0 hV) hg⟩;clear z4 v6 d0 j3 j4;go_wp2_with fail
   go_loopw [10] (fun i wr=>∃k:Nat,k<=64/\i=.int .i64 k/\mO w8.heap.size w8 wr) (fun i _=>64-(intOf i).toNat)
   case atStart=>exact⟨0,by omega,rfl,nA _ _⟩
   obtain⟨k,p5,rfl,hb⟩:=hrel
   by_cases l7:k<64
   ·obtain⟨c0,c1⟩:=Cs HA.out l7;have m5:Hid (bM ((k / 8:Nat):Int) ((k%8:Nat):Int)=true):=by show _=_;simp[bM];omega
    have HX:Hid (∀V,mO w8.heap.size w8 V->(V.cell? ⟨w1.heap.size,0,none⟩=some (.int .i64 s.t.k)/\V.cell? ⟨w1.heap.size,1,none⟩=some (.int .i64 s.t.n)/\V.cell? ⟨w1.heap.size,2,none⟩=some (.slice a0 s.t.len a1)/\V.cell? ⟨w1.heap.size,3,none⟩=some (.slice D s.K.length B)/\V.cell? ⟨w1.heap.size,4,none⟩=some (.slice a4 s.f.length a5)/\V.cell? ⟨w1.heap.size,5,none⟩=some (.slice a6 s.d.length Z))/\V.cell? ⟨ga,k*2,none⟩=some (.int .i64 ((k / 8:Nat):Int))/\V.cell? ⟨ga,k*2+1,none⟩=some (.int .i64 ((k%8:Nat):Int))):=
     fun V hW=>⟨(HC.out V hW).1,cB hW c0,cB hW c1⟩
    have ik:(k:Int)<64:=by omega
    clear c0 c1;generalize hX:((k / 8:Nat):Int)=X at*;generalize hY:((k%8:Nat):Int)=Y at*;clear hX hY;have k4:Hid (gV s.t (s.K.map fun l=>aM l X Y)=some (aM r X Y)):=A0 n6.out m5.out;have k5:Hid (∀l∈s.K.map (fun l=>aM l X Y),aJ l<=1089):=Az b6.out.abs X Y;have O:=hb.drew;have k1:Hid (gE wr.drew (.slice a0 s.t.len a1) (.slice D s.K.length B) (.slice a4 s.f.length a5) (.slice a6 s.d.length Z) s):=(HC.out _ O).2.1;have k3:=(HC.out _ O).2.2
    rcases hat:j9 s X Y with _|L'
    ·have d6:=(show Hid (j9 s X Y=none) from hat);clear hat;go_wp2_with fail
     go_region_held3 (fun V=>(V.cell? ⟨w1.heap.size,0,none⟩=some (.int .i64 s.t.k)/\V.cell? ⟨w1.heap.size,1,none⟩=some (.int .i64 s.t.n)/\V.cell? ⟨w1.heap.size,2,none⟩=some (.slice a0 s.t.len a1)/\V.cell? ⟨w1.heap.size,3,none⟩=some (.slice D s.K.length B)/\V.cell? ⟨w1.heap.size,4,none⟩=some (.slice a4 s.f.length a5)/\V.cell? ⟨w1.heap.size,5,none⟩=some (.slice a6 s.d.length Z))/\V.cell? ⟨ga,k*2,none⟩=some (.int .i64 X)/\V.cell? ⟨ga,k*2+1,none⟩=some (.int .i64 Y))
      (first|exact HX.out _ O|exact HX.out _ S)
      (first
       | (go_at_call 16;with_reducible refine (uX ea d6.out HM.out k1.out k3).mono ?_;rintro e wa ⟨oA,cA,rfl,z7,b8⟩;have S:mO w8.heap.size w8 wa:=aG O b8))
     all_goals
      have T:=S.drew;have d4:Hid (eS wa.drew (.slice D s.K.length B) s.K):=(HC.out _ T).2.1.ly;have k2:=(show Hid (Is wa (.slice oA 0 cA) []) from z7);clear O hb z7;go_wp2_with fail
      go_region_held3 (fun V=>(V.cell? ⟨w1.heap.size,0,none⟩=some (.int .i64 s.t.k)/\V.cell? ⟨w1.heap.size,1,none⟩=some (.int .i64 s.t.n)/\V.cell? ⟨w1.heap.size,2,none⟩=some (.slice a0 s.t.len a1)/\V.cell? ⟨w1.heap.size,3,none⟩=some (.slice D s.K.length B)/\V.cell? ⟨w1.heap.size,4,none⟩=some (.slice a4 s.f.length a5)/\V.cell? ⟨w1.heap.size,5,none⟩=some (.slice a6 s.d.length Z))/\V.cell? ⟨ga,k*2,none⟩=some (.int .i64 X)/\V.cell? ⟨ga,k*2+1,none⟩=some (.int .i64 Y))
       (first|exact HX.out _ T|exact HX.out _ A|exact HX.out _ R)
       (first
        | (go_at_call 21;with_reducible refine (wX _ s.K X Y _ d4.out j2).mono ?_;rintro e wb ⟨oB,rfl,z5,a9⟩;have A:mO w8.heap.size w8 wb:=aG T a9;have v2:=(HC.out _ A).2.1.kd;have v3:=(HC.out _ A).2.2)
        | (go_at_call 20;refine (q9 ea k4.out b6.out.pok k5.out HM.out v2 z5 v3).mono ?_;rintro e wc ⟨oC,rfl,w3,a8⟩;have R:mO w8.heap.size w8 wc:=aG A a8))
      all_goals
       clear w3 z5 v2 v3;go_wp2_with fail;go_roundw
       case rel=>exact⟨k+1,by omega,by go_num,R⟩
       case measure=>simp[intOf];omega
    ·have d6:=(show Hid (j9 s X Y=some L') from hat);have n3:Hid (L'=aM r X Y):=ES hat o0.out;clear hat;go_wp2_with fail
     go_region_held3 (fun V=>(V.cell? ⟨w1.heap.size,0,none⟩=some (.int .i64 s.t.k)/\V.cell? ⟨w1.heap.size,1,none⟩=some (.int .i64 s.t.n)/\V.cell? ⟨w1.heap.size,2,none⟩=some (.slice a0 s.t.len a1)/\V.cell? ⟨w1.heap.size,3,none⟩=some (.slice D s.K.length B)/\V.cell? ⟨w1.heap.size,4,none⟩=some (.slice a4 s.f.length a5)/\V.cell? ⟨w1.heap.size,5,none⟩=some (.slice a6 s.d.length Z))/\V.cell? ⟨ga,k*2,none⟩=some (.int .i64 X)/\V.cell? ⟨ga,k*2+1,none⟩=some (.int .i64 Y))
      (first|exact HX.out _ O|exact HX.out _ S)
      (first
       | (go_at_call 16;with_reducible refine (wQ ea d6.out HM.out k1.out k3).mono ?_;rintro e wa ⟨oA,cA,rfl,z7,b8⟩;have S:mO w8.heap.size w8 wa:=aG O b8))
     all_goals
      have T:=S.drew;have d4:Hid (eS wa.drew (.slice D s.K.length B) s.K):=(HC.out _ T).2.1.ly;have k2:=(show Hid (Is wa (.slice oA L'.length cA) L') from z7);clear O hb z7;go_wp2_with fail
      go_region_held3 (fun V=>(V.cell? ⟨w1.heap.size,0,none⟩=some (.int .i64 s.t.k)/\V.cell? ⟨w1.heap.size,1,none⟩=some (.int .i64 s.t.n)/\V.cell? ⟨w1.heap.size,2,none⟩=some (.slice a0 s.t.len a1)/\V.cell? ⟨w1.heap.size,3,none⟩=some (.slice D s.K.length B)/\V.cell? ⟨w1.heap.size,4,none⟩=some (.slice a4 s.f.length a5)/\V.cell? ⟨w1.heap.size,5,none⟩=some (.slice a6 s.d.length Z))/\V.cell? ⟨ga,k*2,none⟩=some (.int .i64 X)/\V.cell? ⟨ga,k*2+1,none⟩=some (.int .i64 Y))
       (first|exact HX.out _ T|exact HX.out _ A|exact HX.out _ R)
       (first
        | (go_at_call 21;with_reducible refine (wX _ s.K X Y _ d4.out j2).mono ?_;rintro e wb ⟨oB,rfl,z5,a9⟩;have A:mO w8.heap.size w8 wb:=aG T a9;have v2:=(HC.out _ A).2.1.kd;have v3:=(HC.out _ A).2.2)
        | (go_at_call 20;refine (q9 ea k4.out b6.out.pok k5.out HM.out v2 z5 v3).mono ?_;rintro e wc ⟨oC,rfl,w3,a8⟩;have R:mO w8.heap.size w8 wc:=aG A a8))
      all_goals
       have n5:=(show Hid (Is wc oC (aM r X Y)) from w3);have n4:=(show Hid (Is wc (.slice oA L'.length cA) L') from pD.keep (pD.keep (pD.keep k2.out (nA _ _).drew) a9) a8);clear w3 z5 v2 v3;go_wp2_with fail;refine (nN (decide_eq_true n3.out) n4.out n5.out).mono ?_;rintro e wd ⟨rfl,m1⟩;have l3:mO w8.heap.size w8 wd:=aG R m1;go_wp2_with fail;go_roundw
       case rel=>exact⟨k+1,by omega,by go_num,l3⟩
       case measure=>simp[intOf];omega
   obtain rfl:k=64:=by omega
   have l2:=aG z0 hb;go_wp2_with fail;go_ret;exact⟨rfl,l2⟩
end FnSessTop
set_option maxRecDepth 100000
set_option maxHeartbeats 4000000
open Go.ChangeShapes Go.WideShapes Go.Extern.Stop Go.Stop Go.Extern
namespace RowFnSessTop
theorem own:ownKnob fM.godebug=none:=by kernel_rfl
theorem gO:fM.globalNamed "loop.example/tideline/impl.errCannotBe" = some 0:=by kernel_rfl
theorem gOType:(fM.globals[0]?).map (·.type)=some 163:=by kernel_rfl
theorem cellsE:fM.cellsOf 362=1:=by kernel_rfl
theorem cellsS:fM.cellsOf 9=1:=by kernel_rfl
theorem star: "*" ++ "errors.errorString" = "*errors.errorString" := by decide
theorem rowE (u:TypeId)(h:fM.typeName? 3 u=some "*errors.errorString"):u=327:=
 typeName_ptr_named (nm := "errors.errorString") (by rw[star];kernel_rfl) (by kernel_rfl) (by decide) u (by rw[star];exact h)
abbrev textB:ByteArray:={ data:=#[99,97,110,110,111,116,32,98,101] }
noncomputable def low:Nat:=(nB.holding fM default ⟨#[],#[],[]⟩).heap.size
noncomputable def laidWorld (os:Os):nB:=
 let w0:=nB.holding fM os ⟨#[.cells #[.string textB] 362],#[],[]⟩
 { w0 with heap:=w0.heap.modify 0 fun
   | .cells _ t frozen=> .cells #[.iface 327 (.pointer (some ⟨low,0,none⟩))] t frozen
   | o=>o }
theorem laid_met (os:Os)(args:Array nX):laidMetH fM jB.laid ((laidWorld os).forCall (fun _ _=>0) ⟨#[],args,[]⟩).memory:=
 laidMet_of_run (ps:=[.cell 0 0,.cell low 0]) 8 (by kernel_rfl) (by kernel_rfl) (by kernel_rfl)
theorem lifted (os:Os)(B:os.Started)(H:Type)(enc:TypeId×nX->H):
  ReturnsInHanded {} gQ os 3 .any (fun w args=>(jO.pre enc fM fQ [] false w args/\laidMetH fM jB.laid w)/\sizedMet enc fM fQ (OpenSpec.ofChange jO) false w args)
   (jO.post enc fM fQ false true false false):=by
 refine returnsInHanded_of_change_and (C:=gQ) (X:=fun w _=>laidMetH fM jB.laid w) (fun _ _ _ hh h=>h.of_heap hh) own B (by kernel_rfl) gM
  (ChangeSpec.witness_at (enc:=enc) (C:=gQ) (os:=os) (X:=fun w _=>laidMetH fM jB.laid w) false (laidWorld os) #[.slice none 0 0] 8 rfl (by kernel_rfl) (by kernel_rfl) (by kernel_rfl) (by kernel_rfl) (by kernel_rfl) (laid_met os _)) ?_
 intro W O args ds gs before A Z _ _ hL _;have D:∀(j:Nat) t v,fQ.params[j]?=some t->args[j]?=some v->nX.okWide fM W .any O t v:=A;have Y:=Z;obtain⟨p,q,M,h9,rfl,z0,y8⟩:=Z;have hA:DataW.TrodAll enc fM W 0 (fun _=>true) true fQ.params.toList args.toList ds p:=M;have hV:DataW.TrodVars enc fM W (fun _=>true) ["loop.example/tideline/impl.errCannotBe"] gs q:=h9;rw[iM]at hA D;obtain⟨R,y5,d0,z3,p0,q0,x4,rfl,rfl,h0,r0⟩:=trodAll_cons hA;obtain⟨rfl,rfl,rfl⟩:=trodAll_nil r0;obtain rfl:args=#[R]:=by cases args;simp_all
 obtain⟨Q,s1,a,z1,y7,y6⟩:=laid_sentinel (show laidMet fM jB.laid W from hL) gO gOType gD rowE Tryz.underlying327 Tryz.underlying362 rfl rfl Tryz.underlying9 cellsE cellsS;obtain⟨rfl,rfl⟩:=hV.unique (vars_read1 enc gO gOType gD a trivial _);have L:W.cell? ⟨0,0,none⟩=some (gJ Q):=by simpa using nB.var?_cell gO a 0
 obtain⟨b0,s,G,rfl⟩:=okWide_slice gX (D 0 22 R rfl rfl);have T:=h0;have S:∀x∈p0,x.block<W.heap.size:=by obtain⟨m,hm⟩:=T;exact DataW.trod_lt m _ _ _ hm
 have w0:Src W (.slice b0 s G) s:=by
  obtain⟨y3,hf⟩:=h0
  rcases open_ints gX Tryz.underlying5 (by kernel_rfl) hf with⟨g,_⟩|⟨x,l,c,zs,g,_,hl,hm,hz,_,J,U⟩
  ·simp[nX.cells]at g;obtain⟨rfl,rfl,rfl⟩:=g;exact Src.nil _
  ·simp[nX.cells]at g;obtain⟨rfl,rfl,rfl⟩:=g;exact Src.dr hl hm (by simpa using hz) J U
 clear M A;refine (FnSessTop.walk Q b0 s G W w0 L).mono fun e W' ⟨he,I⟩=>?_;subst he;have V:W'.var? fM "loop.example/tideline/impl.errCannotBe" = some #[gJ Q]:=by
  have x1:W'.heap[0]?=W.heap[0]?:=I.block 0 (lC L);unfold nB.var? at a ⊢;rw[gO]at a ⊢;simp only[Option.bind_some,x1]at a ⊢;exact a
 exact⟨_,rfl,_,_,_,[],_,[.cell 0 0],Y,trodAll_mk1 (shut_bool Tryz.underlying4 _),(trodAll_cons_mk (mO.trod Bd (by kernel_rfl) (of_decide_eq_true (by kernel_rfl)) T I S) trodAll_mk0),vars_read1 enc gO gOType gD V trivial _,I.frame _,fun h=>by cases h⟩
theorem closed:joinedFacts fM 3 fQ jO jB=true:=by
 unfold joinedFacts;exact (iH (iH (iH (iH (iH (iH (iH (iH (iH (iH (iH (iH (iH (iH (iH (iH (iH (iH (iH (iH (iH (iH (iH (iH (iH (iH (iH (iH (iH (iH (iH (by as_aux_lemma=>kernel_rfl) Bd) PE) (by as_aux_lemma=>kernel_rfl)) (by as_aux_lemma=>kernel_rfl)) (by as_aux_lemma=>kernel_rfl)) (by as_aux_lemma=>kernel_rfl)) (by as_aux_lemma=>kernel_rfl)) (by as_aux_lemma=>kernel_rfl)) (by as_aux_lemma=>kernel_rfl)) (by as_aux_lemma=>kernel_rfl)) (by as_aux_lemma=>kernel_rfl)) (by as_aux_lemma=>kernel_rfl)) (by as_aux_lemma=>kernel_rfl)) (by as_aux_lemma=>kernel_rfl)) (by as_aux_lemma=>kernel_rfl)) (by as_aux_lemma=>kernel_rfl)) (by as_aux_lemma=>kernel_rfl)) (by as_aux_lemma=>kernel_rfl)) (by as_aux_lemma=>kernel_rfl)) (by as_aux_lemma=>kernel_rfl)) (by as_aux_lemma=>kernel_rfl)) (by as_aux_lemma=>kernel_rfl)) (by as_aux_lemma=>kernel_rfl)) P8) pfEnter) (P9 rfl)) (PD rfl)) (by as_aux_lemma=>kernel_rfl)) (by as_aux_lemma=>kernel_rfl)) (by as_aux_lemma=>kernel_rfl)) (by as_aux_lemma=>kernel_rfl))
theorem over:jB.holds Tryz.pinned (OpenSpec.ofChange jO):=
 OpenClaim.holds_of_wide 3 fQ rfl rfl rfl rfl rfl rfl rfl ⟨rfl,rfl,rfl,rfl,rfl⟩ rfl rfl rfl rfl rfl (by kernel_rfl) gM closed
  (of_decide_eq_true (by kernel_rfl)) (by unfold Func.isWrapper;first|(rw[if_pos (by decide +kernel)];kernel_rfl)|(rw[if_neg (by decide +kernel)];exact⟨rfl,rfl⟩))
  (fun os a H enc _=>lifted os a H enc)
end RowFnSessTop
theorem fnSessTop_card:Rows.FnSessTopCardSaid:=
 Claim7.holds_tied_plain_at .later [] [.sentinel] true Rows.fnSessTopCard.stood.harness true
  RowFnSessTop.over (fun _ h=>by cases h) (by kernel_rfl) (fun _ h=>by cases h) fnSessTop_row_tie rfl ⟨rfl,rfl⟩ (QF.trans (by kernel_rfl)) rfl
  (fun f s hf g=>by
   obtain rfl:f=3:=Option.some.inj ((show fM.funcNamed "loop.example/tideline/laws.FnSessTop" = some 3 by kernel_rfl).symm.trans hf) |>.symm
   obtain rfl:s=fQ:=(Option.some.inj (gM.symm.trans g)).symm;exact⟨PC,fun j t a=>by
    rw[iM]at a;have h3:t=22:=by
     rcases j with _|j
     ·simpa using a.symm
     ·simp at a
    subst h3;exact (show fM.wantsStandIn 22=false by kernel_rfl)⟩)
  (by kernel_rfl)
end Go.Proofs.YtbdpcngcbnoioaaGreatDoor
