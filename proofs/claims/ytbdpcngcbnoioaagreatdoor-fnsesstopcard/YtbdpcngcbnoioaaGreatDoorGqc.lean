import Derived.Test.YtbdpcngcbnoioaaGreatDoorGqa
import Derived.Test.YtbdpcngcbnoioaaGreatDoorGmr
set_option maxRecDepth 100000
set_option maxHeartbeats 16000000
namespace Go.Proofs.YtbdpcngcbnoioaaGreatDoor
open Go.RowKit Go.Shelf
open Go.Proofs.Tryz renaming prog->fM,ntmps16->fQ,ntmps15->gD,func16->gM,func15->gQ,ntmps79->gX,ntmps18->iM,func79->iP,func18->jB
open Go.RowKit renaming Below->jO
open Go.RowKit.Below renaming refl->mO
variable {sd sf si sp:Value}{w:World}
attribute [local go_sem ↓] Go.wp_at_zero Go.wp_at_succ
theorem GN (ea:Addr){s:SS}(z1:s.t.sm)(h:gE w sp si sf sd s)(hg:w.cell? ⟨0,0,none⟩=some (gJ ea)):
  Calls fM 79 #[sv s.t.k s.t.n sp si sf sd] w fun e w'=>∃(a:Option Addr)(c:Nat),e=.returned (.tuple #[.slice a ((dI s).getD []).length c,.bool (dI s).isSome])/\Rs w' (.slice a ((dI s).getD []).length c) ((dI s).getD [])/\jO w.heap.size w w':=by
 obtain⟨S,Q,R,c1,M,c2,L,c3,rfl,rfl,rfl,rfl⟩:=h.sl;have bS:Bk (w.alloc (.cells (sc s.t.k s.t.n (.slice S s.t.len Q) (.slice R s.K.length c1) (.slice M s.f.length c2) (.slice L s.d.length c3)) 30)) w.heap.size (sc s.t.k s.t.n (.slice S s.t.len Q) (.slice R s.K.length c1) (.slice M s.f.length c2) (.slice L s.d.length c3)) 30:=Bk.new _ _ rfl;have O:jO w.heap.size w (w.alloc (.cells (sc s.t.k s.t.n (.slice S s.t.len Q) (.slice R s.K.length c1) (.slice M s.f.length c2) (.slice L s.d.length c3)) 30)):=aH (mO _ _) _;have hS:=h.keep O;have z5:=cB O hg;have HM:=(show Hid (s.t.sm) from z1);obtain⟨x0,x1,x2,x3,x4,x5⟩:=bS.ae;clear h z1;cases hf:dA s.f
 ·have HN:Hid (dI s=none):=by show _=_;unfold dI;rw[hf];rfl
  go_enter iP,gX;go_wp2_with fail;generalize (w.alloc (.cells (sc s.t.k s.t.n (.slice S s.t.len Q) (.slice R s.K.length c1) (.slice M s.f.length c2) (.slice L s.d.length c3)) 30))=W0 at*;refine (vK hf hS.ts).mono ?_;rintro e w1 ⟨rfl,D⟩;have v5:=aG O D;clear x0 x1 x2 x3 x4 x5;go_wp2_with fail;go_ret2;rw[HN.out];exact⟨none,0,rfl,aC.rs (oN iE 5 55 _ 0) (by simp),v5⟩
 go_enter iP,gX;go_wp2_with fail;generalize (w.alloc (.cells (sc s.t.k s.t.n (.slice S s.t.len Q) (.slice R s.K.length c1) (.slice M s.f.length c2) (.slice L s.d.length c3)) 30))=W0 at*;refine (vK hf hS.ts).mono ?_;rintro e w1 ⟨rfl,D⟩;have I:=hS.keep D;have y7:=bS.keep D;have W:=aG O D;have y2:=cB D z5;have z8:=(show Hid (dA s.f=true) from hf);clear x0 x1 x2 x3 x4 x5 hS bS O D z5 hf;obtain⟨x0,x1,x2,x3,x4,x5⟩:=y7.ae
 rcases hfl:dK s.t s.K with _|r
 ·have HN:Hid (dI s=none):=by show _=_;unfold dI;rw[z8.out,hfl];rfl
  have HF:=(show Hid _ from hfl);clear hfl;go_wp2_with fail;refine (GS ea HF.out HM.out I.kd I.ly y2).mono ?_;rintro e g ⟨o2,rfl,r2,H⟩;have J:=aG W H;clear x0 x1 x2 x3 x4 x5;go_wp2_with fail
  go_quiet (fail)
  have v6:jO w.heap.size w (g.drewN nq):=dV J _;go_wp2_with fail;go_ret2;rw[HN.out];exact⟨none,0,rfl,aC.rs (oN iE 5 55 _ 0) (by simp),v6⟩
 ·have HF:=(show Hid (dK s.t s.K=some r) from hfl);have w6:=pI hfl;clear hfl;go_wp2_with fail;refine (Eu ea HF.out HM.out I.kd I.ly y2).mono ?_;rintro e g ⟨o2,rfl,r2,H⟩;have y6:=I.keep H;have z7:=y7.keep H;have J:=aG W H;have w8:=(show Hid (Rs g o2 r) from r2);have A:jO g.heap.size g g.drew:=(mO _ _).drew;have Y:Hid (∀V:World,jO g.heap.size g V->V.cell? ⟨w.heap.size,0,none⟩=some (.int .i64 s.t.k)/\V.cell? ⟨w.heap.size,1,none⟩=some (.int .i64 s.t.n)/\V.cell? ⟨w.heap.size,2,none⟩=some (.slice S s.t.len Q)/\V.cell? ⟨w.heap.size,3,none⟩=some (.slice R s.K.length c1)/\V.cell? ⟨w.heap.size,4,none⟩=some (.slice M s.f.length c2)/\V.cell? ⟨w.heap.size,5,none⟩=some (.slice L s.d.length c3)):=fun V hV=>(z7.keep hV).ae;have Z:Hid (∀V:World,jO g.heap.size g V->Rs V o2 r/\Rs V (.slice L s.d.length c3) s.d/\Ts V (.slice M s.f.length c2) s.f):=fun V hV=>⟨r2.keep hV,(y6.keep hV).rs,(y6.keep hV).ts⟩;have w7:=lS s.f r;have z4:r.length<=1000000:=by omega
  clear x0 x1 x2 x3 x4 x5 I y7 y6 z7 r2 W H y2;obtain⟨x0,x1,x2,x3,x4,x5⟩:=Y.out _ (mO _ _)
  by_cases hd:aV s.f r=s.d
  ·have HN:Hid (dI s=some r):=fW.2 ⟨z8.out,HF.out,hd⟩;have HE:Hid (decide (s.d=aV s.f r)=true):=decide_eq_true hd.symm;clear hd;go_wp2_with fail
   go_region_held3 (fun V=>V.cell? ⟨w.heap.size,0,none⟩=some (.int .i64 s.t.k)/\V.cell? ⟨w.heap.size,1,none⟩=some (.int .i64 s.t.n)/\V.cell? ⟨w.heap.size,2,none⟩=some (.slice S s.t.len Q)/\V.cell? ⟨w.heap.size,3,none⟩=some (.slice R s.K.length c1)/\V.cell? ⟨w.heap.size,4,none⟩=some (.slice M s.f.length c2)/\V.cell? ⟨w.heap.size,5,none⟩=some (.slice L s.d.length c3))
    (first|exact Y.out _ A|exact Y.out _ B|exact Y.out _ G)
    (first
     | (go_at_call 83;with_reducible refine (zX _ _ s.f r _ (Z.out _ A).2.2 (Z.out _ A).1 z4).mono ?_;rintro e wA ⟨oA,rfl,T,y4⟩;have B:jO g.heap.size g wA:=aG A y4;have rA:=aC.rs T (by omega))
     | (go_at_call 152;with_reducible refine (D6 HE.out (Z.out _ B).2.1 rA).mono ?_;rintro e wB ⟨rfl,y3⟩;have G:jO g.heap.size g wB:=aG B y3))
   all_goals
    have U:=aG J G;have z3:=(Z.out _ G).1;obtain⟨ao,co,eo,-⟩:=Rs.open z3;subst eo;go_wp2_with fail;go_ret2;rw[HN.out];exact⟨ao,co,rfl,z3,U⟩
  ·have HN:Hid (dI s=none):=by
    show _=_
    rcases ha:dI s with _|r'
    ·rfl
    ·obtain⟨-,h2,h3⟩:=fW.1 ha;rw[HF.out]at h2;cases h2;exact absurd h3 hd
   have HE:Hid (decide (s.d=aV s.f r)=false):=decide_eq_false fun e=>hd e.symm;clear hd;go_wp2_with fail
   go_region_held3 (fun V=>V.cell? ⟨w.heap.size,0,none⟩=some (.int .i64 s.t.k)/\V.cell? ⟨w.heap.size,1,none⟩=some (.int .i64 s.t.n)/\V.cell? ⟨w.heap.size,2,none⟩=some (.slice S s.t.len Q)/\V.cell? ⟨w.heap.size,3,none⟩=some (.slice R s.K.length c1)/\V.cell? ⟨w.heap.size,4,none⟩=some (.slice M s.f.length c2)/\V.cell? ⟨w.heap.size,5,none⟩=some (.slice L s.d.length c3))
    (first|exact Y.out _ A|exact Y.out _ B|exact Y.out _ G)
    (first
     | (go_at_call 83;with_reducible refine (zX _ _ s.f r _ (Z.out _ A).2.2 (Z.out _ A).1 z4).mono ?_;rintro e wA ⟨oA,rfl,T,y4⟩;have B:jO g.heap.size g wA:=aG A y4;have rA:=aC.rs T (by omega))
     | (go_at_call 152;with_reducible refine (D6 HE.out (Z.out _ B).2.1 rA).mono ?_;rintro e wB ⟨rfl,y3⟩;have G:jO g.heap.size g wB:=aG B y3))
   all_goals
    have U:=aG J G;go_wp2_with fail;go_ret2;rw[HN.out];exact⟨none,0,rfl,aC.rs (oN iE 5 55 _ 0) (by simp),U⟩
theorem CA (M:Addr){s:SS}(H:s.t.sm)(h:gE w sp si sf sd s)(hg:w.cell? ⟨0,0,none⟩=some (gJ M)):
  Calls fM 35 #[sv s.t.k s.t.n sp si sf sd] w fun e O=>e=.returned (.bool (dI s).isSome)/\jO w.heap.size w O:=by
 obtain⟨G,g,D,c1,B,c2,A,c3,rfl,rfl,rfl,rfl⟩:=h.sl;have R:Bk (w.alloc (.cells (sc s.t.k s.t.n (.slice G s.t.len g) (.slice D s.K.length c1) (.slice B s.f.length c2) (.slice A s.d.length c3)) 30)) w.heap.size (sc s.t.k s.t.n (.slice G s.t.len g) (.slice D s.K.length c1) (.slice B s.f.length c2) (.slice A s.d.length c3)) 30:=Bk.new _ _ rfl;have a:jO w.heap.size w (w.alloc (.cells (sc s.t.k s.t.n (.slice G s.t.len g) (.slice D s.K.length c1) (.slice B s.f.length c2) (.slice A s.d.length c3)) 30)):=aH (mO _ _) _;have Q:=h.keep a;have I:=cB a hg;obtain⟨Z,Y,W,U,T,S⟩:=R.ae;go_enter Tryz.func35,Tryz.ntmps35;go_wp2_with fail;refine (GN M H Q I).mono ?_;rintro e w1 ⟨ao,co,rfl,r1,L⟩;have J:=aG a L;go_wp2_with fail;go_ret;exact⟨rfl,J⟩
theorem oH (g:Addr){s:SS}{b:Bool}(B:(dI s).isSome=b)(a:s.t.sm)(h:gE w sp si sf sd s)(hg:w.cell? ⟨0,0,none⟩=some (gJ g)):
  Calls fM 35 #[sv s.t.k s.t.n sp si sf sd] w fun e A=>e=.returned (.bool b)/\jO w.heap.size w A:=by
 rw[<- B];exact CA g a h hg
attribute [local go_sem ↓] Go.wp_at_zero Go.wp_at_succ
theorem CW {s:SS}(h:gE w sp si sf sd s):
  Calls fM 18 #[sv s.t.k s.t.n sp si sf sd] w fun e w'=>e=.returned (.bool (dI s).isSome)/\jO w.heap.size w w':=by
 obtain⟨O,L,M,c1,H,c2,G,c3,rfl,rfl,rfl,rfl⟩:=h.sl;have bS:Bk (w.alloc (.cells (sc s.t.k s.t.n (.slice O s.t.len L) (.slice M s.K.length c1) (.slice H s.f.length c2) (.slice G s.d.length c3)) 30)) w.heap.size (sc s.t.k s.t.n (.slice O s.t.len L) (.slice M s.K.length c1) (.slice H s.f.length c2) (.slice G s.d.length c3)) 30:=Bk.new _ _ rfl;have Q:jO w.heap.size w (w.alloc (.cells (sc s.t.k s.t.n (.slice O s.t.len L) (.slice M s.K.length c1) (.slice H s.f.length c2) (.slice G s.d.length c3)) 30)):=aH (mO _ _) _;have hS:=h.keep Q;obtain⟨Y,W,U,T,S,R⟩:=bS.ae;clear h;cases hf:dA s.f
 ·have HN:Hid (dI s=none):=by show _=_;unfold dI;rw[hf];rfl
  go_enter jB,iM;go_wp2_with fail;generalize (w.alloc (.cells (sc s.t.k s.t.n (.slice O s.t.len L) (.slice M s.K.length c1) (.slice H s.f.length c2) (.slice G s.d.length c3)) 30))=W0 at*;refine (sQ hf hS.ts).mono ?_;rintro e w1 ⟨rfl,A⟩;have z3:=aG Q A;clear Y W U T S R;go_wp2_with fail;go_ret;rw[HN.out];exact⟨rfl,z3⟩
 go_enter jB,iM;go_wp2_with fail;generalize (w.alloc (.cells (sc s.t.k s.t.n (.slice O s.t.len L) (.slice M s.K.length c1) (.slice H s.f.length c2) (.slice G s.d.length c3)) 30))=W0 at*;refine (sQ hf hS.ts).mono ?_;rintro e w1 ⟨rfl,A⟩;have B:=hS.keep A;have x7:=bS.keep A;have J:=aG Q A;have y3:=(show Hid (dA s.f=true) from hf);clear Y W U T S R hS bS Q A hf;obtain⟨Y,W,U,T,S,R⟩:=x7.ae
 rcases hfl:dK s.t s.K with _|r
 ·have HN:Hid (dI s=none):=by show _=_;unfold dI;rw[y3.out,hfl];rfl
  have HF:=(show Hid _ from hfl);clear hfl;go_wp2_with fail;refine (Gy HF.out B.kd B.ly).mono ?_;rintro e a ⟨o2,rfl,r2,g⟩;have I:=aG J g;clear Y W U T S R;go_wp2_with fail
  go_quiet (fail)
  have z4:jO w.heap.size w (a.drewN nq):=dV I _;go_wp2_with fail;go_ret;rw[HN.out];exact⟨rfl,z4⟩
 ·have HF:=(show Hid (dK s.t s.K=some r) from hfl);have v2:=pI hfl;clear hfl;go_wp2_with fail;refine (Ft HF.out B.kd B.ly).mono ?_;rintro e a ⟨o2,rfl,r2,g⟩;have x6:=B.keep g;have y2:=x7.keep g;have I:=aG J g;have D:jO a.heap.size a a.drew:=(mO _ _).drew;have HX:Hid (∀V:World,jO a.heap.size a V->V.cell? ⟨w.heap.size,0,none⟩=some (.int .i64 s.t.k)/\V.cell? ⟨w.heap.size,1,none⟩=some (.int .i64 s.t.n)/\V.cell? ⟨w.heap.size,2,none⟩=some (.slice O s.t.len L)/\V.cell? ⟨w.heap.size,3,none⟩=some (.slice M s.K.length c1)/\V.cell? ⟨w.heap.size,4,none⟩=some (.slice H s.f.length c2)/\V.cell? ⟨w.heap.size,5,none⟩=some (.slice G s.d.length c3)):=fun V hV=>(y2.keep hV).ae;have HQ:Hid (∀V:World,jO a.heap.size a V->Rs V o2 r/\Rs V (.slice G s.d.length c3) s.d/\Ts V (.slice H s.f.length c2) s.f):=fun V hV=>⟨r2.keep hV,(x6.keep hV).rs,(x6.keep hV).ts⟩;have v3:=lS s.f r;have z1:r.length<=1000000:=by omega
  clear Y W U T S R B x7 x6 y2 r2 J g;obtain⟨Y,W,U,T,S,R⟩:=HX.out _ (mO _ _);obtain⟨b,HN,HE⟩:∃b:Bool,Hid ((dI s).isSome=b)/\Hid (decide (aV s.f r=s.d)=b):=by
   by_cases hd:aV s.f r=s.d
   ·exact⟨true,by show _=_;rw[fW.2 ⟨y3.out,HF.out,hd⟩];rfl,decide_eq_true hd⟩
   ·refine⟨false,?_,decide_eq_false hd⟩
    show _=_
    rcases ha:dI s with _|r'
    ·rfl
    ·obtain⟨-,h2,h3⟩:=fW.1 ha;rw[HF.out]at h2;cases h2;exact absurd h3 hd
  go_wp2_with fail
  go_region_held3 (fun V=>V.cell? ⟨w.heap.size,0,none⟩=some (.int .i64 s.t.k)/\V.cell? ⟨w.heap.size,1,none⟩=some (.int .i64 s.t.n)/\V.cell? ⟨w.heap.size,2,none⟩=some (.slice O s.t.len L)/\V.cell? ⟨w.heap.size,3,none⟩=some (.slice M s.K.length c1)/\V.cell? ⟨w.heap.size,4,none⟩=some (.slice H s.f.length c2)/\V.cell? ⟨w.heap.size,5,none⟩=some (.slice G s.d.length c3))
   (first|exact HX.out _ D|exact HX.out _ Z|exact HX.out _ y1)
   (first
    | (go_at_call 71;with_reducible refine (sX _ _ s.f r _ (HQ.out _ D).1 (HQ.out _ D).2.2 z1).mono ?_;rintro e wA ⟨oA,rfl,y5,z7⟩;have Z:jO a.heap.size a wA:=aG D z7;have rA:=aC.rs y5 (by omega))
    | (go_at_call 70;with_reducible refine (Iu HE.out rA (HQ.out _ Z).2.1).mono ?_;rintro e wB ⟨rfl,z5⟩;have y1:jO a.heap.size a wB:=aG Z z5))
  all_goals
   have y6:=aG I y1;go_wp2_with fail;go_ret;rw[HN.out];exact⟨rfl,y6⟩
theorem dC {s:SS}{b:Bool}(g:(dI s).isSome=b)(h:gE w sp si sf sd s):
  Calls fM 18 #[sv s.t.k s.t.n sp si sf sd] w fun e a=>e=.returned (.bool b)/\jO w.heap.size w a:=by
 rw[<- g];exact CW h
theorem ET {s:SS}{x y:Int}(h:(dI s).isSome=true)(hx:bM x y=true)(a:fY s.f x y=false):j9 s x y=some (aM s.d x y):=by
 unfold j9;rw[h,hx,a];rfl
theorem vD {s:SS}{x y:Int}(h:(dI s).isSome=false\/bM x y=false\/fY s.f x y=true):j9 s x y=none:=by
 unfold j9;rcases h with h|h|h<;>simp[h]
theorem vL (ea:Addr){s:SS}(x y:Int)(y5:s.t.sm)(h:gE w sp si sf sd s)(hg:w.cell? ⟨0,0,none⟩=some (gJ ea)):
  Calls fM 16 #[sv s.t.k s.t.n sp si sf sd,tv x y] w fun e w'=>∃(a:Option Addr)(c:Nat),e=.returned (.tuple #[.slice a ((j9 s x y).getD []).length c,.bool (j9 s x y).isSome])/\Is w' (.slice a ((j9 s x y).getD []).length c) ((j9 s x y).getD [])/\jO w.heap.size w w':=by
 obtain⟨a0,c0,a1,c1,a2,c2,a3,c3,rfl,rfl,rfl,rfl⟩:=h.sl;have bS:Bk ((w.alloc (.cells (sc s.t.k s.t.n (.slice a0 s.t.len c0) (.slice a1 s.K.length c1) (.slice a2 s.f.length c2) (.slice a3 s.d.length c3)) 30)).alloc (.cells #[.int .i64 x,.int .i64 y] 32)) w.heap.size (sc s.t.k s.t.n (.slice a0 s.t.len c0) (.slice a1 s.K.length c1) (.slice a2 s.f.length c2) (.slice a3 s.d.length c3)) 30:=(Bk.new _ _ rfl).alloc _;have bT:Bk ((w.alloc (.cells (sc s.t.k s.t.n (.slice a0 s.t.len c0) (.slice a1 s.K.length c1) (.slice a2 s.f.length c2) (.slice a3 s.d.length c3)) 30)).alloc (.cells #[.int .i64 x,.int .i64 y] 32)) (w.heap.size+1) #[.int .i64 x,.int .i64 y] 32:=Bk.new _ _ (by simp);have T:jO w.heap.size w ((w.alloc (.cells (sc s.t.k s.t.n (.slice a0 s.t.len c0) (.slice a1 s.K.length c1) (.slice a2 s.f.length c2) (.slice a3 s.d.length c3)) 30)).alloc (.cells #[.int .i64 x,.int .i64 y] 32)):=aH (aH (mO _ _) _) _;have Z:=h.keep T;have y6:=cB T hg;obtain⟨Q,O,M,L,J,I⟩:=bS.ae;obtain⟨D,B,_,_⟩:=bT.two;clear h;cases R:(dI s).isSome
 ·have HN:Hid (j9 s x y=none):=vD (.inl R);go_enter gM,fQ;go_wp2_with fail;generalize ((w.alloc (.cells (sc s.t.k s.t.n (.slice a0 s.t.len c0) (.slice a1 s.K.length c1) (.slice a2 s.f.length c2) (.slice a3 s.d.length c3)) 30)).alloc (.cells #[.int .i64 x,.int .i64 y] 32))=W0 at*;refine (oH ea R y5 Z y6).mono ?_;rintro e w1 ⟨rfl,g⟩;have U:=aG T g;clear Q O M L J I D B;go_wp2_with fail;go_ret2;rw[HN.out];exact⟨none,0,rfl,aQ.is (oN nQ 3 98 _ 0) (by simp),U⟩
 cases hx:bM x y
 ·have HN:Hid (j9 s x y=none):=vD (.inr (.inl hx));go_enter gM,fQ;go_wp2_with fail;generalize ((w.alloc (.cells (sc s.t.k s.t.n (.slice a0 s.t.len c0) (.slice a1 s.K.length c1) (.slice a2 s.f.length c2) (.slice a3 s.d.length c3)) 30)).alloc (.cells #[.int .i64 x,.int .i64 y] 32))=W0 at*;refine (oH ea R y5 Z y6).mono ?_;rintro e w1 ⟨rfl,g⟩;have G:=aG T g;obtain⟨v1,v0,_,_⟩:=(bT.keep g).two;clear Q O M L J I D B;go_wp2_with fail;refine (m9 hx _).mono ?_;rintro e w2 ⟨rfl,A⟩;have U:=aG G A;clear v1 v0;go_wp2_with fail;go_ret2;rw[HN.out];exact⟨none,0,rfl,aQ.is (oN nQ 3 98 _ 0) (by simp),U⟩
 cases hc:fY s.f x y
 ·have HN:Hid (j9 s x y=some (aM s.d x y)):=ET R hx hc;go_enter gM,fQ;go_wp2_with fail;generalize ((w.alloc (.cells (sc s.t.k s.t.n (.slice a0 s.t.len c0) (.slice a1 s.K.length c1) (.slice a2 s.f.length c2) (.slice a3 s.d.length c3)) 30)).alloc (.cells #[.int .i64 x,.int .i64 y] 32))=W0 at*;refine (oH ea R y5 Z y6).mono ?_;rintro e w1 ⟨rfl,g⟩;have G:=aG T g;have Y:=Z.keep g;have x8:=bS.keep g;have H:=bT.keep g;clear Q O M L J I D B Z bS bT;obtain⟨D,B,_,_⟩:=H.two;go_wp2_with fail;refine (m9 hx _).mono ?_;rintro e w2 ⟨rfl,A⟩;have y3:=aG G A;have W:=Y.keep A;have x7:=x8.keep A;have x6:=H.keep A;clear D B Y x8 H;obtain⟨Q,O,M,L,J,I⟩:=x7.ae;obtain⟨D,B,_,_⟩:=x6.two;go_wp2_with fail;refine (rT hc W.ts).mono ?_;rintro e w3 ⟨rfl,S⟩;have z5:=aG y3 S;have v3:=W.keep S;have v5:=x7.keep S;have v4:=x6.keep S;clear Q O M L J I D B W x7 x6;obtain⟨Q,O,M,L,J,I⟩:=v5.ae;obtain⟨D,B,_,_⟩:=v4.two;go_wp2_with fail;refine (Md rfl v3.rs).mono ?_;rintro e w4 ⟨o4,rfl,z3,v2⟩;have z4:=aG z5 v2;obtain⟨ao,co,eo,-⟩:=Is.open z3;subst eo;clear Q O M L J I D B;go_wp2_with fail;go_ret2;rw[HN.out];exact⟨ao,co,rfl,z3,z4⟩
 ·have HN:Hid (j9 s x y=none):=vD (.inr (.inr hc));go_enter gM,fQ;go_wp2_with fail;generalize ((w.alloc (.cells (sc s.t.k s.t.n (.slice a0 s.t.len c0) (.slice a1 s.K.length c1) (.slice a2 s.f.length c2) (.slice a3 s.d.length c3)) 30)).alloc (.cells #[.int .i64 x,.int .i64 y] 32))=W0 at*;refine (oH ea R y5 Z y6).mono ?_;rintro e w1 ⟨rfl,g⟩;have G:=aG T g;have Y:=Z.keep g;have x8:=bS.keep g;have H:=bT.keep g;clear Q O M L J I D B Z bS bT;obtain⟨D,B,_,_⟩:=H.two;go_wp2_with fail;refine (m9 hx _).mono ?_;rintro e w2 ⟨rfl,A⟩;have y3:=aG G A;have W:=Y.keep A;have x7:=x8.keep A;have x6:=H.keep A;clear D B Y x8 H;obtain⟨Q,O,M,L,J,I⟩:=x7.ae;obtain⟨D,B,_,_⟩:=x6.two;go_wp2_with fail;refine (rT hc W.ts).mono ?_;rintro e w3 ⟨rfl,S⟩;have U:=aG y3 S;clear Q O M L J I D B;go_wp2_with fail;go_ret2;rw[HN.out];exact⟨none,0,rfl,aQ.is (oN nQ 3 98 _ 0) (by simp),U⟩
theorem vV {s:SS}(x y:Int)(h:gE w sp si sf sd s):
  Calls fM 15 #[sv s.t.k s.t.n sp si sf sd,tv x y] w fun e w'=>∃(a:Option Addr)(c:Nat),e=.returned (.tuple #[.slice a ((j9 s x y).getD []).length c,.bool (j9 s x y).isSome])/\Is w' (.slice a ((j9 s x y).getD []).length c) ((j9 s x y).getD [])/\jO w.heap.size w w':=by
 obtain⟨a0,c0,a1,c1,a2,c2,a3,c3,rfl,rfl,rfl,rfl⟩:=h.sl;have bS:Bk ((w.alloc (.cells (sc s.t.k s.t.n (.slice a0 s.t.len c0) (.slice a1 s.K.length c1) (.slice a2 s.f.length c2) (.slice a3 s.d.length c3)) 30)).alloc (.cells #[.int .i64 x,.int .i64 y] 32)) w.heap.size (sc s.t.k s.t.n (.slice a0 s.t.len c0) (.slice a1 s.K.length c1) (.slice a2 s.f.length c2) (.slice a3 s.d.length c3)) 30:=(Bk.new _ _ rfl).alloc _;have bT:Bk ((w.alloc (.cells (sc s.t.k s.t.n (.slice a0 s.t.len c0) (.slice a1 s.K.length c1) (.slice a2 s.f.length c2) (.slice a3 s.d.length c3)) 30)).alloc (.cells #[.int .i64 x,.int .i64 y] 32)) (w.heap.size+1) #[.int .i64 x,.int .i64 y] 32:=Bk.new _ _ (by simp);have U:jO w.heap.size w ((w.alloc (.cells (sc s.t.k s.t.n (.slice a0 s.t.len c0) (.slice a1 s.K.length c1) (.slice a2 s.f.length c2) (.slice a3 s.d.length c3)) 30)).alloc (.cells #[.int .i64 x,.int .i64 y] 32)):=aH (aH (mO _ _) _) _;have Z:=h.keep U;obtain⟨Q,O,M,L,J,I⟩:=bS.ae;obtain⟨D,B,_,_⟩:=bT.two;clear h;cases R:(dI s).isSome
 ·have HN:Hid (j9 s x y=none):=vD (.inl R);go_enter gQ,gD;go_wp2_with fail;generalize ((w.alloc (.cells (sc s.t.k s.t.n (.slice a0 s.t.len c0) (.slice a1 s.K.length c1) (.slice a2 s.f.length c2) (.slice a3 s.d.length c3)) 30)).alloc (.cells #[.int .i64 x,.int .i64 y] 32))=W0 at*;refine (dC R Z).mono ?_;rintro e w1 ⟨rfl,g⟩;have T:=aG U g;clear Q O M L J I D B;go_wp2_with fail;go_ret2;rw[HN.out];exact⟨_,0,rfl,aQ.is (jX _ rfl) (by simp),aH T _⟩
 cases hx:bM x y
 ·have HN:Hid (j9 s x y=none):=vD (.inr (.inl hx));go_enter gQ,gD;go_wp2_with fail;generalize ((w.alloc (.cells (sc s.t.k s.t.n (.slice a0 s.t.len c0) (.slice a1 s.K.length c1) (.slice a2 s.f.length c2) (.slice a3 s.d.length c3)) 30)).alloc (.cells #[.int .i64 x,.int .i64 y] 32))=W0 at*;refine (dC R Z).mono ?_;rintro e w1 ⟨rfl,g⟩;have G:=aG U g;obtain⟨z8,z7,_,_⟩:=(bT.keep g).two;clear Q O M L J I D B;go_wp2_with fail;refine (mA hx _).mono ?_;rintro e w2 ⟨rfl,A⟩;have T:=aG G A;clear z8 z7;go_wp2_with fail;go_ret2;rw[HN.out];exact⟨_,0,rfl,aQ.is (jX _ rfl) (by simp),aH T _⟩
 cases hc:fY s.f x y
 ·have HN:Hid (j9 s x y=some (aM s.d x y)):=ET R hx hc;go_enter gQ,gD;go_wp2_with fail;generalize ((w.alloc (.cells (sc s.t.k s.t.n (.slice a0 s.t.len c0) (.slice a1 s.K.length c1) (.slice a2 s.f.length c2) (.slice a3 s.d.length c3)) 30)).alloc (.cells #[.int .i64 x,.int .i64 y] 32))=W0 at*;refine (dC R Z).mono ?_;rintro e w1 ⟨rfl,g⟩;have G:=aG U g;have Y:=Z.keep g;have x8:=bS.keep g;have H:=bT.keep g;clear Q O M L J I D B Z bS bT;obtain⟨D,B,_,_⟩:=H.two;go_wp2_with fail;refine (mA hx _).mono ?_;rintro e w2 ⟨rfl,A⟩;have y3:=aG G A;have W:=Y.keep A;have x7:=x8.keep A;have x6:=H.keep A;clear D B Y x8 H;obtain⟨Q,O,M,L,J,I⟩:=x7.ae;obtain⟨D,B,_,_⟩:=x6.two;go_wp2_with fail;refine (jY hc W.ts).mono ?_;rintro e w3 ⟨rfl,S⟩;have z1:=aG y3 S;have v0:=W.keep S;have v2:=x7.keep S;have v1:=x6.keep S;clear Q O M L J I D B W x7 x6;obtain⟨Q,O,M,L,J,I⟩:=v2.ae;obtain⟨D,B,_,_⟩:=v1.two;go_wp2_with fail;refine (NU rfl v0.rs).mono ?_;rintro e w4 ⟨o4,rfl,y8,z9⟩;have z0:=aG z1 z9;obtain⟨ao,co,eo,-⟩:=Is.open y8;subst eo;clear Q O M L J I D B;go_wp2_with fail;go_ret2;rw[HN.out];exact⟨ao,co,rfl,y8,z0⟩
 ·have HN:Hid (j9 s x y=none):=vD (.inr (.inr hc));go_enter gQ,gD;go_wp2_with fail;generalize ((w.alloc (.cells (sc s.t.k s.t.n (.slice a0 s.t.len c0) (.slice a1 s.K.length c1) (.slice a2 s.f.length c2) (.slice a3 s.d.length c3)) 30)).alloc (.cells #[.int .i64 x,.int .i64 y] 32))=W0 at*;refine (dC R Z).mono ?_;rintro e w1 ⟨rfl,g⟩;have G:=aG U g;have Y:=Z.keep g;have x8:=bS.keep g;have H:=bT.keep g;clear Q O M L J I D B Z bS bT;obtain⟨D,B,_,_⟩:=H.two;go_wp2_with fail;refine (mA hx _).mono ?_;rintro e w2 ⟨rfl,A⟩;have y3:=aG G A;have W:=Y.keep A;have x7:=x8.keep A;have x6:=H.keep A;clear D B Y x8 H;obtain⟨Q,O,M,L,J,I⟩:=x7.ae;obtain⟨D,B,_,_⟩:=x6.two;go_wp2_with fail;refine (jY hc W.ts).mono ?_;rintro e w3 ⟨rfl,S⟩;have T:=aG y3 S;clear Q O M L J I D B;go_wp2_with fail;go_ret2;rw[HN.out];exact⟨_,0,rfl,aQ.is (jX _ rfl) (by simp),aH T _⟩
theorem II {v:Value}{l:LI}(h:Ts w v l):∃a s,v=.slice a l.length s/\l.length<=s/\s<=maxLen/\l.length<=2097152 /\
  ∀i:Nat,i<l.length->∃g off A B,a=some ⟨g,off,none⟩/\g<w.heap.size/\l[i]?=some (A,B)/\w.cell? ⟨g,off+i*2,none⟩=some (.int .i64 A)/\w.cell? ⟨g,off+i*2+1,none⟩=some (.int .i64 B):=by
 obtain⟨a,s,e,h1,h2,h3,h4⟩:=h;refine⟨a,s,e,h1,h2,h3,fun i hi=>?_⟩;obtain⟨g,off,D,hg,G,c1⟩:=h4 i hi;exact⟨g,off,tA l i,tB l i,D,hg,by simp[tA,tB,hi],G,c1⟩
end Go.Proofs.YtbdpcngcbnoioaaGreatDoor
