import Derived.Test.YtbdpcngcbnoioaaGreatDoorGqa
import Derived.Test.YtbdpcngcbnoioaaGreatDoorGmr
set_option maxRecDepth 100000
set_option maxHeartbeats 16000000
namespace Go.Proofs.YtbdpcngcbnoioaaGreatDoor
open Go.RowKit Go.Shelf
open Go.RowKit renaming Below->fD
open Go.RowKit.Below renaming refl->fH
open Go.Proofs.Tryz renaming prog->fV,ntmps79->gY,ntmps18->gZ,func79->iC,func18->jU
variable {sd sf si sp:Value}{w:World}
attribute [local go_sem ↓] Go.wp_at_zero Go.wp_at_succ
theorem Ez (ea:Addr){s:SS}(y8:s.t.sm)(h:bY w sp si sf sd s)(hg:w.cell? ⟨0,0,none⟩=some (iB ea)):
  Calls fV 79 #[sv s.t.k s.t.n sp si sf sd] w fun e w'=>∃(a:Option Addr)(c:Nat),e=.returned (.tuple #[.slice a ((dI s).getD []).length c,.bool (dI s).isSome])/\Rs w' (.slice a ((dI s).getD []).length c) ((dI s).getD [])/\fD w.heap.size w w':=by
 obtain⟨Q,N,O,c1,L,c2,J,c3,rfl,rfl,rfl,rfl⟩:=h.sl;have bS:Bk (w.alloc (.cells (sc s.t.k s.t.n (.slice Q s.t.len N) (.slice O s.K.length c1) (.slice L s.f.length c2) (.slice J s.d.length c3)) 30)) w.heap.size (sc s.t.k s.t.n (.slice Q s.t.len N) (.slice O s.K.length c1) (.slice L s.f.length c2) (.slice J s.d.length c3)) 30:=Bk.new _ _ rfl;have M:fD w.heap.size w (w.alloc (.cells (sc s.t.k s.t.n (.slice Q s.t.len N) (.slice O s.K.length c1) (.slice L s.f.length c2) (.slice J s.d.length c3)) 30)):=aG (fH _ _) _;have hS:=h.keep M;have z1:=cB M hg;have HM:=(show Hid (s.t.sm) from y8);obtain⟨x0,x1,x2,x3,x4,Z⟩:=bS.aY;clear h y8;cases hf:cC s.f
 ·have Y:Hid (dI s=none):=by show _=_;unfold dI;rw[hf];rfl
  go_enter iC,gY;go_wp2_with fail;generalize (w.alloc (.cells (sc s.t.k s.t.n (.slice Q s.t.len N) (.slice O s.K.length c1) (.slice L s.f.length c2) (.slice J s.d.length c3)) 30))=W0 at*;refine (jN hf hS.ts).mono ?_;rintro e w1 ⟨rfl,D⟩;have u0:=aH M D;clear x0 x1 x2 x3 x4 Z;go_wp2_with fail;go_ret2;rw[Y.out];exact⟨none,0,rfl,aD.rs (oN fX 5 55 _ 0) (by simp),u0⟩
 go_enter iC,gY;go_wp2_with fail;generalize (w.alloc (.cells (sc s.t.k s.t.n (.slice Q s.t.len N) (.slice O s.K.length c1) (.slice L s.f.length c2) (.slice J s.d.length c3)) 30))=W0 at*;refine (jN hf hS.ts).mono ?_;rintro e w1 ⟨rfl,D⟩;have H:=hS.keep D;have y5:=bS.keep D;have T:=aH M D;have y0:=cB D z1;have z3:=(show Hid (cC s.f=true) from hf);clear x0 x1 x2 x3 x4 Z hS bS M D z1 hf;obtain⟨x0,x1,x2,x3,x4,Z⟩:=y5.aY
 rcases hfl:dG s.t s.K with _|r
 ·have Y:Hid (dI s=none):=by show _=_;unfold dI;rw[z3.out,hfl];rfl
  have HF:=(show Hid _ from hfl);clear hfl;go_wp2_with fail;refine (Eu ea HF.out HM.out H.kd H.ly y0).mono ?_;rintro e g ⟨o2,rfl,r2,G⟩;have I:=aH T G;clear x0 x1 x2 x3 x4 Z;go_wp2_with fail
  go_quiet (fail)
  have u4:fD w.heap.size w (g.drewN nq):=dC I _;go_wp2_with fail;go_ret2;rw[Y.out];exact⟨none,0,rfl,aD.rs (oN fX 5 55 _ 0) (by simp),u4⟩
 ·have HF:=(show Hid (dG s.t s.K=some r) from hfl);have v5:=k7 hfl;clear hfl;go_wp2_with fail;refine (Eh ea HF.out HM.out H.kd H.ly y0).mono ?_;rintro e g ⟨o2,rfl,r2,G⟩;have y4:=H.keep G;have z2:=y5.keep G;have I:=aH T G;have v7:=(show Hid (Rs g o2 r) from r2);have A:fD g.heap.size g g.drew:=(fH _ _).drew;have U:Hid (∀V:World,fD g.heap.size g V->V.cell? ⟨w.heap.size,0,none⟩=some (.int .i64 s.t.k)/\V.cell? ⟨w.heap.size,1,none⟩=some (.int .i64 s.t.n)/\V.cell? ⟨w.heap.size,2,none⟩=some (.slice Q s.t.len N)/\V.cell? ⟨w.heap.size,3,none⟩=some (.slice O s.K.length c1)/\V.cell? ⟨w.heap.size,4,none⟩=some (.slice L s.f.length c2)/\V.cell? ⟨w.heap.size,5,none⟩=some (.slice J s.d.length c3)):=fun V hV=>(z2.keep hV).aY;have W:Hid (∀V:World,fD g.heap.size g V->Rs V o2 r/\Rs V (.slice J s.d.length c3) s.d/\Ts V (.slice L s.f.length c2) s.f):=fun V hV=>⟨r2.keep hV,(y4.keep hV).rs,(y4.keep hV).ts⟩;have v6:=kD s.f r;have z0:r.length<=1000000:=by omega
  clear x0 x1 x2 x3 x4 Z H y5 y4 z2 r2 T G y0;obtain⟨x0,x1,x2,x3,x4,Z⟩:=U.out _ (fH _ _)
  by_cases hd:aJ s.f r=s.d
  ·have Y:Hid (dI s=some r):=dS.2 ⟨z3.out,HF.out,hd⟩;have HE:Hid (decide (s.d=aJ s.f r)=true):=decide_eq_true hd.symm;clear hd;go_wp2_with fail
   go_region_held3 (fun V=>V.cell? ⟨w.heap.size,0,none⟩=some (.int .i64 s.t.k)/\V.cell? ⟨w.heap.size,1,none⟩=some (.int .i64 s.t.n)/\V.cell? ⟨w.heap.size,2,none⟩=some (.slice Q s.t.len N)/\V.cell? ⟨w.heap.size,3,none⟩=some (.slice O s.K.length c1)/\V.cell? ⟨w.heap.size,4,none⟩=some (.slice L s.f.length c2)/\V.cell? ⟨w.heap.size,5,none⟩=some (.slice J s.d.length c3))
    (first|exact U.out _ A|exact U.out _ B|exact U.out _ F)
    (first
     | (go_at_call 83;with_reducible refine (tQ _ _ s.f r _ (W.out _ A).2.2 (W.out _ A).1 z0).mono ?_;rintro e wA ⟨oA,rfl,R,y2⟩;have B:fD g.heap.size g wA:=aH A y2;have rA:=aD.rs R (by omega))
     | (go_at_call 152;with_reducible refine (CF HE.out (W.out _ B).2.1 rA).mono ?_;rintro e wB ⟨rfl,y1⟩;have F:fD g.heap.size g wB:=aH B y1))
   all_goals
    have S:=aH I F;have y9:=(W.out _ F).1;obtain⟨ao,co,eo,-⟩:=Rs.open y9;subst eo;go_wp2_with fail;go_ret2;rw[Y.out];exact⟨ao,co,rfl,y9,S⟩
  ·have Y:Hid (dI s=none):=by
    show _=_
    rcases ha:dI s with _|r'
    ·rfl
    ·obtain⟨-,h2,h3⟩:=dS.1 ha;rw[HF.out]at h2;cases h2;exact absurd h3 hd
   have HE:Hid (decide (s.d=aJ s.f r)=false):=decide_eq_false fun e=>hd e.symm;clear hd;go_wp2_with fail
   go_region_held3 (fun V=>V.cell? ⟨w.heap.size,0,none⟩=some (.int .i64 s.t.k)/\V.cell? ⟨w.heap.size,1,none⟩=some (.int .i64 s.t.n)/\V.cell? ⟨w.heap.size,2,none⟩=some (.slice Q s.t.len N)/\V.cell? ⟨w.heap.size,3,none⟩=some (.slice O s.K.length c1)/\V.cell? ⟨w.heap.size,4,none⟩=some (.slice L s.f.length c2)/\V.cell? ⟨w.heap.size,5,none⟩=some (.slice J s.d.length c3))
    (first|exact U.out _ A|exact U.out _ B|exact U.out _ F)
    (first
     | (go_at_call 83;with_reducible refine (tQ _ _ s.f r _ (W.out _ A).2.2 (W.out _ A).1 z0).mono ?_;rintro e wA ⟨oA,rfl,R,y2⟩;have B:fD g.heap.size g wA:=aH A y2;have rA:=aD.rs R (by omega))
     | (go_at_call 152;with_reducible refine (CF HE.out (W.out _ B).2.1 rA).mono ?_;rintro e wB ⟨rfl,y1⟩;have F:fD g.heap.size g wB:=aH B y1))
   all_goals
    have S:=aH I F;go_wp2_with fail;go_ret2;rw[Y.out];exact⟨none,0,rfl,aD.rs (oN fX 5 55 _ 0) (by simp),S⟩
attribute [local go_sem ↓] Go.wp_at_zero Go.wp_at_succ
theorem Bm {s:SS}(h:bY w sp si sf sd s):
  Calls fV 18 #[sv s.t.k s.t.n sp si sf sd] w fun e w'=>e=.returned (.bool (dI s).isSome)/\fD w.heap.size w w':=by
 obtain⟨M,J,L,c1,G,c2,F,c3,rfl,rfl,rfl,rfl⟩:=h.sl;have bS:Bk (w.alloc (.cells (sc s.t.k s.t.n (.slice M s.t.len J) (.slice L s.K.length c1) (.slice G s.f.length c2) (.slice F s.d.length c3)) 30)) w.heap.size (sc s.t.k s.t.n (.slice M s.t.len J) (.slice L s.K.length c1) (.slice G s.f.length c2) (.slice F s.d.length c3)) 30:=Bk.new _ _ rfl;have N:fD w.heap.size w (w.alloc (.cells (sc s.t.k s.t.n (.slice M s.t.len J) (.slice L s.K.length c1) (.slice G s.f.length c2) (.slice F s.d.length c3)) 30)):=aG (fH _ _) _;have hS:=h.keep N;obtain⟨U,T,S,R,Q,O⟩:=bS.aY;clear h;cases hf:cC s.f
 ·have HN:Hid (dI s=none):=by show _=_;unfold dI;rw[hf];rfl
  go_enter jU,gZ;go_wp2_with fail;generalize (w.alloc (.cells (sc s.t.k s.t.n (.slice M s.t.len J) (.slice L s.K.length c1) (.slice G s.f.length c2) (.slice F s.d.length c3)) 30))=W0 at*;refine (sQ hf hS.ts).mono ?_;rintro e w1 ⟨rfl,A⟩;have y9:=aH N A;clear U T S R Q O;go_wp2_with fail;go_ret;rw[HN.out];exact⟨rfl,y9⟩
 go_enter jU,gZ;go_wp2_with fail;generalize (w.alloc (.cells (sc s.t.k s.t.n (.slice M s.t.len J) (.slice L s.K.length c1) (.slice G s.f.length c2) (.slice F s.d.length c3)) 30))=W0 at*;refine (sQ hf hS.ts).mono ?_;rintro e w1 ⟨rfl,A⟩;have B:=hS.keep A;have h9:=bS.keep A;have I:=aH N A;have y1:=(show Hid (cC s.f=true) from hf);clear U T S R Q O hS bS N A hf;obtain⟨U,T,S,R,Q,O⟩:=h9.aY
 rcases hfl:dG s.t s.K with _|r
 ·have HN:Hid (dI s=none):=by show _=_;unfold dI;rw[y1.out,hfl];rfl
  have HF:=(show Hid _ from hfl);clear hfl;go_wp2_with fail;refine (FH HF.out B.kd B.ly).mono ?_;rintro e a ⟨o2,rfl,r2,g⟩;have H:=aH I g;clear U T S R Q O;go_wp2_with fail
  go_quiet (fail)
  have z0:fD w.heap.size w (a.drewN nq):=dC H _;go_wp2_with fail;go_ret;rw[HN.out];exact⟨rfl,z0⟩
 ·have HF:=(show Hid (dG s.t s.K=some r) from hfl);have z7:=k7 hfl;clear hfl;go_wp2_with fail;refine (EW HF.out B.kd B.ly).mono ?_;rintro e a ⟨o2,rfl,r2,g⟩;have Z:=B.keep g;have y0:=h9.keep g;have H:=aH I g;have D:fD a.heap.size a a.drew:=(fH _ _).drew;have HX:Hid (∀V:World,fD a.heap.size a V->V.cell? ⟨w.heap.size,0,none⟩=some (.int .i64 s.t.k)/\V.cell? ⟨w.heap.size,1,none⟩=some (.int .i64 s.t.n)/\V.cell? ⟨w.heap.size,2,none⟩=some (.slice M s.t.len J)/\V.cell? ⟨w.heap.size,3,none⟩=some (.slice L s.K.length c1)/\V.cell? ⟨w.heap.size,4,none⟩=some (.slice G s.f.length c2)/\V.cell? ⟨w.heap.size,5,none⟩=some (.slice F s.d.length c3)):=fun V Y=>(y0.keep Y).aY;have HQ:Hid (∀V:World,fD a.heap.size a V->Rs V o2 r/\Rs V (.slice F s.d.length c3) s.d/\Ts V (.slice G s.f.length c2) s.f):=fun V Y=>⟨r2.keep Y,(Z.keep Y).rs,(Z.keep Y).ts⟩;have z8:=kD s.f r;have y8:r.length<=1000000:=by omega
  clear U T S R Q O B h9 Z y0 r2 I g;obtain⟨U,T,S,R,Q,O⟩:=HX.out _ (fH _ _);obtain⟨b,HN,HE⟩:∃b:Bool,Hid ((dI s).isSome=b)/\Hid (decide (aJ s.f r=s.d)=b):=by
   by_cases hd:aJ s.f r=s.d
   ·exact⟨true,by show _=_;rw[dS.2 ⟨y1.out,HF.out,hd⟩];rfl,decide_eq_true hd⟩
   ·refine⟨false,?_,decide_eq_false hd⟩
    show _=_
    rcases ha:dI s with _|r'
    ·rfl
    ·obtain⟨-,h2,h3⟩:=dS.1 ha;rw[HF.out]at h2;cases h2;exact absurd h3 hd
  go_wp2_with fail
  go_region_held3 (fun V=>V.cell? ⟨w.heap.size,0,none⟩=some (.int .i64 s.t.k)/\V.cell? ⟨w.heap.size,1,none⟩=some (.int .i64 s.t.n)/\V.cell? ⟨w.heap.size,2,none⟩=some (.slice M s.t.len J)/\V.cell? ⟨w.heap.size,3,none⟩=some (.slice L s.K.length c1)/\V.cell? ⟨w.heap.size,4,none⟩=some (.slice G s.f.length c2)/\V.cell? ⟨w.heap.size,5,none⟩=some (.slice F s.d.length c3))
   (first|exact HX.out _ D|exact HX.out _ W|exact HX.out _ x9)
   (first
    | (go_at_call 71;with_reducible refine (rH _ _ s.f r _ (HQ.out _ D).1 (HQ.out _ D).2.2 y8).mono ?_;rintro e wA ⟨oA,rfl,y3,z2⟩;have W:fD a.heap.size a wA:=aH D z2;have rA:=aD.rs y3 (by omega))
    | (go_at_call 70;with_reducible refine (Gs HE.out rA (HQ.out _ W).2.1).mono ?_;rintro e wB ⟨rfl,z1⟩;have x9:fD a.heap.size a wB:=aH W z1))
  all_goals
   have y4:=aH H x9;go_wp2_with fail;go_ret;rw[HN.out];exact⟨rfl,y4⟩
theorem fO {s:SS}{b:Bool}(g:(dI s).isSome=b)(h:bY w sp si sf sd s):
  Calls fV 18 #[sv s.t.k s.t.n sp si sf sd] w fun e a=>e=.returned (.bool b)/\fD w.heap.size w a:=by
 rw[<- g];exact Bm h
theorem Bs {v:Value}{l:LI}(h:Ts w v l):∃a s,v=.slice a l.length s/\l.length<=s/\s<=maxLen/\l.length<=2097152 /\
  ∀i:Nat,i<l.length->∃g off A B,a=some ⟨g,off,none⟩/\g<w.heap.size/\l[i]?=some (A,B)/\w.cell? ⟨g,off+i*2,none⟩=some (.int .i64 A)/\w.cell? ⟨g,off+i*2+1,none⟩=some (.int .i64 B):=by
 obtain⟨a,s,e,h1,h2,h3,h4⟩:=h;refine⟨a,s,e,h1,h2,h3,fun i hi=>?_⟩;obtain⟨g,off,D,hg,F,c1⟩:=h4 i hi;exact⟨g,off,tA l i,tB l i,D,hg,by simp[tA,tB,hi],F,c1⟩
theorem Cw (N S:Value)(f g:LI)(w:World)(hf:Ts w N f)(hg:Ts w S g):
  Calls fV 81 #[N,S] w fun e w'=>e=.returned (.bool (eQ f g))/\fD w.heap.size w w':=by
 have HT:=(show Hid (Ts w N f) from hf);obtain⟨af,x6,rfl,-,-,-,-⟩:=hf;obtain⟨a,y0,rfl,hc,hm,hn,s⟩:=Bs hg;unfold maxLen at hm;have HC:=(show Hid _ from s);clear s hg;go_enter Tryz.func81,Tryz.ntmps81;go_wp2_with fail
 go_loopw [9] (fun i wr=>∃k:Nat,k<=g.length/\i=.int .i64 k/\eQ f (g.take k)=true/\fD w.heap.size w wr) (fun i _=>g.length-(intOf i).toNat)
 case atStart=>exact⟨0,by omega,rfl,rfl,fH _ _⟩
 case round=>
  obtain⟨k,x9,rfl,J,I⟩:=hrel;have HA:=(show Hid (eQ f (g.take k)=true) from J);clear J
  by_cases R:k<g.length
  ·obtain⟨q,off,A,B,rfl,hq,hr,U,c1⟩:=HC.out k R;have Z:=(show Hid (g[k]?=some (A,B)) from hr);have T:=cB I U;have d1:=cB I c1;have ik:((k:Int)<(g.length:Int)):=by omega
   have W:=Bk.new (w:=wr) #[.int .i64 A,.int .i64 B] 32 rfl;have M:fD wr.heap.size wr (wr.alloc (.cells #[.int .i64 A,.int .i64 B] 32)):=aG (fH _ _) _;have H:=aH I M;have Y:=HT.out.keep H;obtain⟨Q,O,_,_⟩:=W.two;clear U c1 hr I M;cases D:fE f A B
   ·have L:Hid (eQ f g=false):=by
     show _=_
     unfold eQ;rw[List.all_eq_false];exact⟨(A,B),List.mem_of_getElem? Z.out,by simp[D]⟩
    go_wp2_with fail;generalize World.alloc _ _=wt at*;refine (qN D Y).mono ?_;rintro e w3 ⟨rfl,G⟩;have F:=aH H G;clear T d1 Q O;go_wp2_with fail;go_ret;exact⟨by rw[L.out];try rfl,F⟩
   ·have L:Hid (eQ f (g.take (k+1))=true):=by
     show _=_
     have h1:=HA.out;unfold eQ at h1 ⊢;rw[gL Z.out,List.all_append,h1];simp[D]
    go_wp2_with fail;generalize World.alloc _ _=wt at*;refine (qN D Y).mono ?_;rintro e w3 ⟨rfl,G⟩;have F:=aH H G;clear T d1 Q O;go_wp2_with fail;go_roundw
    case rel=>exact⟨k+1,by omega,by go_num,L.out,F⟩
    case measure=>simp[intOf];omega
  ·obtain rfl:k=g.length:=by omega
   have ik:¬((g.length:Int)<(g.length:Int)):=by omega
   have L:Hid (eQ f g=true):=by have:=HA.out;rw[List.take_length]at this;exact this
   go_wp2_with fail;go_ret;exact⟨by rw[L.out];try rfl,I⟩
theorem wT {f g:LI}{r:Bool}(h:eQ f g=r){s a:Value}(hf:Ts w s f)(hg:Ts w a g):
  Calls fV 81 #[s,a] w fun e A=>e=.returned (.bool r)/\fD w.heap.size w A:=by
 rw[<- h];exact Cw s a f g w hf hg
end Go.Proofs.YtbdpcngcbnoioaaGreatDoor
