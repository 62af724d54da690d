import Derived.Test.YtbdpcngcbnoioaaGreatDoorGpm
import Derived.Test.YtbdpcngcbnoioaaGreatDoorGf2
import Derived.Test.YtbdpcngcbnoioaaGreatDoorGe2
set_option maxRecDepth 100000
set_option maxHeartbeats 32000000
namespace Go.Proofs.YtbdpcngcbnoioaaGreatDoor
open Go.RowKit Go.Shelf
open Go.Proofs.Tryz renaming prog->fM,results137->fQ,results100->gD,func100->gM,ntmps100->gQ,results99->gX,results69->iM,results170->iP,func30->jB
open Go renaming bodyPost_ret->jO,Calls->mO,Value->nA,rounds_succ->nB,World->nT,Addr->nX,wp_loop_rounds->oU
open Go.RowKit renaming Below->oW
open _root_.List renaming mem_of_getElem?->pU,getElem?_append_right->qV,getElem?_eq_some_iff->sD,getElem?_append_left->tJ,getElem?_eq_getElem->tK,getElem?_of_mem->tL,length_append->tM,all_eq_false->tN,take_length->xU,all_append->xV
open Go.RowKit.Below renaming refl->AP
open Go.Proofs renaming enters_of->AW
open Go.Calls renaming mono->C5
variable {B:Nat}{iv kv s:nA}{n:Int}{p:Nat->Prop}{w:nT}
theorem Ju (S off x3:Nat)(R Q:nA)(a D:List Rw)(w:nT)(c0:w.cell? ⟨S,off,none⟩=some R)(c1:w.cell? ⟨S,off+1,none⟩=some Q)(h1:Rs w R a)(h2:Rs w Q D)(hl:a.length+D.length<=2000000):
  mO fM 88 #[.slice (some ⟨S,off,none⟩) 2 x3] w fun e w'=>∃o:nA,e=.returned o/\aC w' w.heap.size o (a++D)/\oW w.heap.size w w':=by
 have H1:Hid (Rs w R a):=h1;have H2:Hid (Rs w Q D):=h2;obtain⟨a1,y7,rfl,_,_,_,_⟩:=h1;obtain⟨a2,y6,rfl,_,_,_,_⟩:=h2;have Z:=(show Hid _ from c0);have Y:=(show Hid _ from c1);go_enter Tryz.func88,Tryz.ntmps88;generalize L:a.length=n1 at*;generalize J:D.length=n2 at*;have q1:(0:Int)<=(n1:Int):=by omega
 have q2:(n1:Int)<=2000000:=by omega
 have q3:(0:Int)<=(n1:Int)+(n2:Int):=by omega
 have q4:(n1:Int)+(n2:Int)<=2000000:=by omega
 have q5:¬((n1:Int)<0):=by omega
 have q6:¬((n1:Int)+(n2:Int)<0):=by omega
 have E1:Hid (a.length=n1):=L;have E2:Hid (D.length=n2):=J;clear L J;go_wp2_with fail;refine oU 3 ?_;rw[nB];go_wp2_with fail;rw[nB];go_wp2_with fail;rw[nB];go_wp2_with fail;refine (MZ (n:=n1+n2) (by omega) (by omega) _).mono ?_;rintro e w1 ⟨o1,rfl,I,A⟩;have R1:=H1.out.keep A;have d0:=cB A Z.out;have d1:=cB A Y.out;have z3:=A.size;have U:Hid (aC w1 w.heap.size o1 []):=I;clear I H1 c0 c1;go_wp2_with fail;refine oU 3 ?_;rw[nB]
 go_wp2_with (at_builtin;refine oG _ rfl _ _ rfl w.heap.size _ [] rfl U.out _ a rfl R1 (by have:=E1.out;simp;omega) (by omega) ?_;intro v3 w3 H O)
 have g:oW w.heap.size w w3:=Below.aU A O (by omega) (bU U.out);have z1:=g.size;have R2:=H2.out.keep g;have T:Hid (aC w3 w.heap.size v3 a):=by show aC _ _ _ _;simpa using H
 have f0:=cB g Z.out;have f1:=cB g Y.out;clear H O d0 d1 R1 U A H2 Z Y;rw[nB]
 go_wp2_with (at_builtin;refine oG _ rfl _ _ rfl w.heap.size _ a rfl T.out _ D rfl R2 (by have:=E1.out;have:=E2.out;omega) (by omega) ?_;intro v5 w5 G M)
 have x2:oW w.heap.size w w5:=Below.aU g M (by omega) (bU T.out);have O5:Hid (aC w5 w.heap.size v5 (a++D)):=G;clear G M f0 f1 R2 T g;rw[nB];go_wp2_with fail
 go_returns
 exact⟨_,rfl,O5.out,x2⟩
structure Qv (how:Int)(fn:Nat):Prop where
 of:∀W,mO fM 171 #[.int .i64 how] W fun e w'=>e=.returned (.tuple #[.func (.func fn) #[] #[],.bool true])/\oW W.heap.size W w'
 eg:∀args w,(callFunc fn args).run fM w=.ok (.enter fn args) w
 way:∀(K V:Int)(W:nT),0<=K->K<=3->0<=V->V<=99->mO fM fn #[.agg #[.int .i64 K,.int .i64 V]] W fun e w'=>e=.returned (.tuple #[.agg #[.int .i64 (bC how (K,V)).1,.int .i64 (bC how (K,V)).2],.bool (cR how (K,V))])/\oW W.heap.size W w'
theorem Qr {a:Int}(A:1<=a/\a<=7):∃g,Qv a g:=by
 obtain rfl|rfl|rfl|rfl|rfl|rfl|rfl:a=1\/a=2\/a=3\/a=4\/a=5\/a=6\/a=7:=by omega
 ·exact⟨215,Cd,AW Tryz.func215 (by kernel_rfl) rfl,fun K V W=>GB K V W⟩
 ·exact⟨216,Ce,AW Tryz.func216 (by kernel_rfl) rfl,fun K V W=>GC K V W⟩
 ·exact⟨217,Cf,AW Tryz.func217 (by kernel_rfl) rfl,fun K V W=>GD K V W⟩
 ·exact⟨218,Cg,AW Tryz.func218 (by kernel_rfl) rfl,fun K V W=>GF K V W⟩
 ·exact⟨219,Ch,AW Tryz.func219 (by kernel_rfl) rfl,fun K V W=>GG K V W⟩
 ·exact⟨220,Ci,AW Tryz.func220 (by kernel_rfl) rfl,fun K V W=>GH K V W⟩
 ·exact⟨221,Cj,AW Tryz.func221 (by kernel_rfl) rfl,fun K V W=>GI K V W⟩
theorem Gw {a b:List Rw}(hn:n=0\/n=1)(hi:eS w iv [a,b])(Y:a.length<=400)(U:b.length<=400)(L:∃x m c,kv=.slice x m c):
  mO fM 100 #[.iface 172 (.int .i64 n),iv,kv] w fun e J=>∃o:nA,e=.returned (.tuple #[o,.nilIface])/\aC J w.heap.size o (if n=0 then a else b)/\oW w.heap.size w J:=by
 obtain⟨g,off,h9,ad,cp,x0,Z,rfl,hg,c0,c1,S,R,Q,O⟩:=hi.two;obtain⟨x,m,c,rfl⟩:=L;have T:=QQ n
 rcases hn with rfl|rfl
 ·have D:Hid (aC w w.heap.size (.slice none 0 0) []):=oN _ _ _ _ _;go_enter gM,gQ
  go_wp2_with (at_builtin;refine oG _ rfl _ _ rfl w.heap.size _ [] rfl D.out _ a rfl S (by simp;omega) (by omega) ?_;intro M I A G)
  have H:oW w.heap.size w I:=Below.aU (AP _ _) G (by omega) (bU D.out);refine jO (v:= .tuple #[_,.nilIface]) (by simp[results,gD,go_sem];try rfl) rfl ?_;exact⟨_,rfl,by simpa using A,H⟩
 ·have D:Hid (aC w w.heap.size (.slice none 0 0) []):=oN _ _ _ _ _;go_enter gM,gQ
  go_wp2_with (at_builtin;refine oG _ rfl _ _ rfl w.heap.size _ [] rfl D.out _ b rfl R (by simp;omega) (by omega) ?_;intro M I A G)
  have H:oW w.heap.size w I:=Below.aU (AP _ _) G (by omega) (bU D.out);refine jO (v:= .tuple #[_,.nilIface]) (by simp[results,gD,go_sem];try rfl) rfl ?_;exact⟨_,rfl,by simpa using A,H⟩
theorem Dz {x:List Rw}(hn:1<=n/\n<=7)(hx:aZ x=true)(hi:∃x m c,iv=.slice x m c)(Z:eS w kv [x]):
  mO fM 100 #[.iface 173 (.int .i64 n),iv,kv] w fun e L=>∃o:nA,e=.returned (.tuple #[o,.nilIface])/\aC L w.heap.size o (aO aW (cJ n x))/\oW w.heap.size w L:=by
 obtain⟨fn,H⟩:=Qr hn;have I:=(show Hid _ from H.of);have J:=(show Hid _ from fun v W hR=>Ei fn n v x W hR hx H.eg H.way);have y0:=qX n x;have y1:=D4 n x;have x8:=i6 hx;have x9:=oY hx;have R:Hid (∀r∈cJ n x,spOk r.1):=MN hx;obtain⟨g,off,y2,ad,cp,rfl,hg,Q,R0,h9,Y⟩:=Z.one;obtain⟨i1,i2,i3,rfl⟩:=hi;have C0:=(show Hid _ from Q);have x7:=QR n;have x6:=QS n;clear H Q;go_enter gM,gQ;go_wp2_with fail;refine (I.out _).mono ?_;rintro e w1 ⟨rfl,G⟩;have d0:=cB G C0.out;go_wp2_with fail;refine (J.out _ w1 (R0.keep G)).mono ?_;rintro e T ⟨o2,rfl,A,O⟩;have R2:=aC.rs A (by omega);have D:=aG G O;clear A J I;go_wp2_with fail;refine (rI _ _ _ R2 (by omega) (by omega) R.out).mono ?_;rintro e S ⟨U,rfl,a,M⟩;have O3:=(show Hid (aC S T.heap.size U (aO aW (cJ n x))) from a);have hs:=D.size;clear a;go_wp2_with fail;refine jO (v:= .tuple #[_,.nilIface]) (by simp[results,gD,go_sem];try rfl) rfl ?_;exact⟨_,rfl,cW O3.out hs,aG D M⟩
theorem Dy {x y:List Rw}(hx:aZ x=true)(G:aZ y=true)(hi:∃x m c,iv=.slice x m c)(hk:eS w kv [x,y]):
  mO fM 100 #[.iface 175 (.int .i64 n),iv,kv] w fun e H=>∃o:nA,e=.returned (.tuple #[o,.nilIface])/\aC H w.heap.size o (aO aW (x++y))/\oW w.heap.size w H:=by
 have x7:=i6 hx;have Z:=i6 G;have x8:=Ea hx G;have R:Hid (∀r∈x++y,spOk r.1):=OH hx G;have I:(x++y).length<=1000000:=by rw[tM];omega
 obtain⟨g,off,L,ad,cp,y0,x9,rfl,hg,M,c1,Q,O,x1,h9⟩:=hk.two;obtain⟨i1,i2,i3,rfl⟩:=hi;have S:=(show Hid _ from Ju g off L _ _ x y w M c1 Q O (by omega));have x6:=QT n;have x5:=QU n;have x4:=QV n;clear M c1 Q O;go_enter gM,gQ;go_wp2_with fail;refine C5 S.out ?_;rintro e U ⟨o2,rfl,A,D⟩;have R2:=aC.rs A (by omega);clear A S;go_wp2_with fail;refine (rI _ _ _ R2 I (by omega) R.out).mono ?_;rintro e T ⟨Y,rfl,a,J⟩;have O3:=(show Hid (aC T U.heap.size Y (aO aW (x++y))) from a);have hs:=D.size;clear a;go_wp2_with fail;refine jO (v:= .tuple #[_,.nilIface]) (by simp[results,gD,go_sem];try rfl) rfl ?_;exact⟨_,rfl,cW O3.out hs,aG D J⟩
theorem E3 {x:List Rw}(hi:∃x m c,iv=.slice x m c)(J:eS w kv [x]):
  mO fM 100 #[.iface 177 (.int .i64 n),iv,kv] w fun e A=>∃o:nA,e=.returned (.tuple #[o,.nilIface])/\aC A w.heap.size o (dW x)/\oW w.heap.size w A:=by
 obtain⟨g,off,U,ad,cp,rfl,hg,c0,M,L,I⟩:=J.one;obtain⟨i1,Z,Y,rfl⟩:=hi;have T:=QW n;have S:=QX n;have R:=QY n;have Q:=QZ n;go_enter gM,gQ;go_wp2_with fail;refine (Dk _ x w M).mono ?_;rintro e G ⟨H,rfl,a,D⟩;have O:=(show Hid (aC G w.heap.size H (dW x)) from a);clear a;go_wp2_with fail;refine jO (v:= .tuple #[_,.nilIface]) (by simp[results,gD,go_sem];try rfl) rfl ?_;exact⟨_,rfl,O.out,D⟩
theorem E0 {x y:List Rw}(hx:aZ x=true)(O:aZ y=true)(hi:∃x m c,iv=.slice x m c)(hk:eS w kv [x,y]):
  mO fM 100 #[.iface 178 (.int .i64 n),iv,kv] w fun e U=>∃o:nA,e=.returned (.tuple #[o,.nilIface])/\aC U w.heap.size o (aO aW (cY x y))/\oW w.heap.size w U:=by
 obtain⟨J,Y⟩:=DW hx O;have x2:Hid (∀r∈cY x y,spOk r.1):=N2 hx O;obtain⟨g,off,y6,ad,Q,I,H,rfl,hg,c0,c1,R0,R1,x7,x5⟩:=hk.two;obtain⟨i1,i2,i3,rfl⟩:=hi;have R:Hid (∀W,oW w.heap.size w W->W.cell? ⟨g,off,none⟩=some (.slice ad x.length Q)/\W.cell? ⟨g,off+1,none⟩=some (.slice I y.length H)):=fun W G=>⟨cB G c0,cB G c1⟩;have HR:Hid (∀W,oW w.heap.size w W->Rs W (.slice ad x.length Q) x/\Rs W (.slice I y.length H) y):=fun W G=>⟨R0.keep G,R1.keep G⟩;have a:oW w.heap.size w w.drew:=(AP _ _).drew;have y5:=Qa n;have y4:=Qb n;have y3:=Qc n;have y2:=Qd n;have y1:=Qe n;clear R0 R1;go_enter gM,gQ;go_wp2_with fail
 go_region_held3 (fun W=>W.cell? ⟨g,off,none⟩=some (.slice ad x.length Q)/\W.cell? ⟨g,off+1,none⟩=some (.slice I y.length H))
  (first|exact R.out _ a|exact R.out _ D|exact R.out _ L)
  (first
   | (go_at_call 173;with_reducible refine (FR _ _ x y _ (HR.out _ a).1 (HR.out _ a).2 hx O).mono ?_;rintro e T ⟨o2,rfl,M,h9⟩;have D:oW w.heap.size w T:=aG a h9;have R2:=aC.rs M (Nat.le_trans J (by decide)))
   | (go_at_call 155;with_reducible refine (rI _ _ _ R2 (Nat.le_trans J (by decide)) Y x2.out).mono ?_;rintro e S ⟨o3,rfl,A,Z⟩;have L:oW w.heap.size w S:=aG D Z))
 all_goals
  have hs:=D.size;have O3:=(show Hid (aC S T.heap.size o3 (aO aW (cY x y))) from A);clear A;go_wp2_with fail;refine jO (v:= .tuple #[_,.nilIface]) (by simp[results,gD,go_sem];try rfl) rfl ?_;exact⟨_,rfl,cW O3.out hs,L⟩
theorem Fh {x:List Rw}(hn:cG n 1 3=true)(hx:aZ x=true)(hi:∃x m c,iv=.slice x m c)(Z:eS w kv [x]):
  mO fM 100 #[.iface 180 (.int .i64 n),iv,kv] w fun e L=>∃o:nA,e=.returned (.tuple #[o,.nilIface])/\aC L w.heap.size o (aO aW (fT n x))/\oW w.heap.size w L:=by
 obtain⟨fn,H⟩:=Li hn;have I:=(show Hid _ from H.of);have J:=(show Hid _ from fun v W hR=>H0 H v x W hR hx);have hfl:=tV n x;have y1:=DH n x;have R:Hid (∀r∈fT n x,spOk r.1):=MT;obtain⟨g,off,y2,ad,cp,rfl,hg,Q,R0,h9,Y⟩:=Z.one;obtain⟨i1,i2,i3,rfl⟩:=hi;have C0:=(show Hid _ from Q);have y0:=Qf n;have x9:=Qg n;have x8:=Qh n;have x7:=Qi n;have x6:=Qj n;have x5:=Qk n;clear H Q;go_enter gM,gQ;go_wp2_with fail;refine (I.out _).mono ?_;rintro e w1 ⟨rfl,G⟩;have d0:=cB G C0.out;go_wp2_with fail;refine (J.out _ w1 (R0.keep G)).mono ?_;rintro e T ⟨o2,rfl,A,O⟩;have R2:=aC.rs A (by omega);have D:=aG G O;clear A J I;go_wp2_with fail;refine (rI _ _ _ R2 (by omega) (by omega) R.out).mono ?_;rintro e S ⟨U,rfl,a,M⟩;have O3:=(show Hid (aC S T.heap.size U (aO aW (fT n x))) from a);have hs:=D.size;clear a;go_wp2_with fail;refine jO (v:= .tuple #[_,.nilIface]) (by simp[results,gD,go_sem];try rfl) rfl ?_;exact⟨_,rfl,cW O3.out hs,aG D M⟩
theorem FQ {a b:List Rw}{t:PT}{K:List (List Rw)}(g:∀l∈K,bH l=true)(D:a.length<=400)(A:b.length<=400):(jN a b t K).length<=1000000:=by
 have hg:∀i,aZ (K.getD i [])=true:=fun i=>by
  rw[List.getD_eq_getElem?_getD];cases h:K[i]? with
  | none=>exact I4
  | some l=>exact jA (g l (pU h))
 have h0:=hg 0;have h1:=hg 1;unfold jN
 split
 ·split<;>omega
 ·generalize K.getD 0 []=x at*;generalize K.getD 1 []=y at*;have H:=i6 h0;have G:=i6 h1;unfold DU
  split
  ·have:=gP aW (cJ t.n x);have:=qX t.n x;omega
  split
  ·have:=gP aW (x++y);rw[tM]at this;omega
  split
  ·have:=i6 (jA (DQ x));omega
  split
  ·have:=gP aW (cY x y);have:=(DW h0 h1).1;omega
  ·have:=gP aW (fT t.n x);have:=tV t.n x;omega
theorem Fg {a b:List Rw}{t:PT}{K:List (List Rw)}(Y:dZ t=true)(hl:K.length=t.len)(L:∀l∈K,bH l=true)(Q:a.length<=400)(M:b.length<=400)(hi:eS w iv [a,b])(I:eS w kv K):
  mO fM 100 #[dQ t,iv,kv] w fun e H=>∃o:nA,e=.returned (.tuple #[o,.nilIface])/\aC H w.heap.size o (jN a b t K)/\(jN a b t K).length<=1000000/\oW w.heap.size w H:=by
 have R:=FQ (t:=t) L Q M;obtain⟨T,g,G,D⟩:=m6 Y;have key:mO fM 100 #[dQ t,iv,kv] w fun e H=>∃o:nA,e=.returned (.tuple #[o,.nilIface])/\aC H w.heap.size o (jN a b t K)/\oW w.heap.size w H:=by
  obtain⟨ia,ic,A⟩:=hi.sl;obtain⟨ka,Z,U⟩:=I.sl;cases t with
  | n0 k n=>
   obtain rfl:=BO Y;simp[eH,eP,PT.k,PT.n]at G D;exact Gw (n:=n) (by omega) hi Q M ⟨_,_,_,U⟩
  | n1 k n x=>
   obtain⟨l,rfl⟩:∃l,K=[l]:=by
    match K,hl with
    | [l],_=>exact⟨l,rfl⟩
   have J:=L l (by simp);simp only[PT.k,PT.n,PT.len]at T g G D;have S:k=1\/k=2\/k=3\/k=4\/k=5\/k=6:=by omega
   rcases S with rfl|rfl|rfl|rfl|rfl|rfl
   ·exact absurd g (by decide)
   ·exact Dz (by simp[eH,eP]at G D;exact⟨G,D⟩) (jA J) ⟨_,_,_,A⟩ I
   ·exact absurd g (by decide)
   ·exact E3 ⟨_,_,_,A⟩ I
   ·exact absurd g (by decide)
   ·exact Fh (by simp[eH,eP]at G D;simp[cG];exact⟨G,D⟩) (jA J) ⟨_,_,_,A⟩ I
  | n2 k n x y=>
   obtain⟨l,m,rfl⟩:∃l m,K=[l,m]:=by
    match K,hl with
    | [l,m],_=>exact⟨l,m,rfl⟩
   have J:=L l (by simp);have O:=L m (by simp);simp only[PT.k,PT.n,PT.len]at T g G D;have S:k=1\/k=2\/k=3\/k=4\/k=5\/k=6:=by omega
   rcases S with rfl|rfl|rfl|rfl|rfl|rfl
   ·exact absurd g (by decide)
   ·exact absurd g (by decide)
   ·exact Dy (jA J) (jA O) ⟨_,_,_,A⟩ I
   ·exact absurd g (by decide)
   ·exact E0 (jA J) (jA O) ⟨_,_,_,A⟩ I
   ·exact absurd g (by decide)
 refine key.mono ?_;rintro e H ⟨o,rfl,h1,h2⟩;exact⟨o,rfl,h1,R,h2⟩
theorem IT (v:nA)(K:List (List Rw))(w:nT)(h:eS w v K):
  mO fM 169 #[v,.func (.func 30) #[] #[]] w fun e Q=>e=.returned (.bool (K.all bH))/\oW w.heap.size w Q:=by
 have eg:=AW (P:=fM) jB (by kernel_rfl) rfl;have Y:=(show Hid (eS w v K) from h);obtain⟨a,h9,rfl,hc,hm,hn,-⟩:=h.open;unfold maxLen at hm;clear h;go_enter Tryz.func169,Tryz.ntmps169;go_wp2_with fail
 go_loopw [9] (fun i wr=>∃k:Nat,k<=K.length/\i=.int .i64 k/\(K.take k).all bH=true/\oW w.heap.size w wr) (fun i _=>K.length-(intOf i).toNat)
 case atStart=>exact⟨0,by omega,rfl,by simp,AP _ _⟩
 case round=>
  obtain⟨k,Z,rfl,D,H⟩:=hrel;have J:=(show Hid ((K.take k).all bH=true) from D);clear D
  by_cases L:k<K.length
  ·obtain⟨l,hl⟩:∃l,K[k]?=some l:=⟨_,tK L⟩;obtain⟨a',U,T,-,-,-,A⟩:=(Y.out.keep H).open;cases T;obtain⟨g,off,ad,cp,rfl,hg,c0,S⟩:=A k l hl;have R:((k:Int)<(K.length:Int)):=by omega
   have O:=(show Hid (K[k]?=some l) from hl);clear A hl;go_wp2_with fail;refine (tW _ l wr S).mono ?_;rintro e w1 ⟨rfl,M⟩;have G:=aG H M;cases ho:bH l
   ·have I:Hid (K.all bH=false):=by
     show _=_
     rw[tN];exact⟨l,pU O.out,by simp[ho]⟩
    go_wp2_with fail;go_ret;exact⟨by rw[I.out];rfl,G⟩
   ·have I:Hid ((K.take (k+1)).all bH=true):=by
     show _=_
     rw[fK O.out,xV,J.out];simp[ho]
    go_wp2_with fail;go_roundw
    case rel=>exact⟨k+1,by omega,by go_num,I.out,G⟩
    case measure=>simp[intOf];omega
  ·obtain rfl:k=K.length:=by omega
   rw[xU]at J;have R:¬((K.length:Int)<(K.length:Int)):=by omega
   go_wp2_with fail;go_ret;exact⟨by rw[J.out];rfl,H⟩
def IN (ea:nX)(a b:List Rw)(t:PT)(w:nT)(e:Ending)(w':nT):Prop:=
 ((∃o r,cU a b t=some r/\e=.returned (.tuple #[o,.nilIface])/\aC w' w.heap.size o r)\/(cU a b t=none/\e=.returned (.tuple #[.slice none 0 0,gJ ea])))/\oW w.heap.size w w'
theorem P4 {t:PT}{a:Option nX}{n c:Nat}(h:iU p w t (.slice a n c)){i:Nat}(hi:i<t.len):
  ∃g off sx,a=some ⟨g,off,none⟩/\g<w.heap.size/\w.cell? ⟨g,off+i*2,none⟩=some (dQ (t.ab i))/\w.cell? ⟨g,off+i*2+1,none⟩=some sx/\iU p w (t.ab i) sx/\(∃b m d,sx=.slice b m d):=by
 cases t with
 | n0 k n=>simp[PT.len]at hi
 | n1 k n x=>
  obtain⟨g,c,sx,e,_,h1,h2,h3⟩:=h;obtain rfl:i=0:=by simp[PT.len]at hi;exact hi
  cases e;obtain⟨b,d,A⟩:=h3.sl;exact⟨g,0,sx,rfl,lC h1,by simpa[PT.ab]using h1,by simpa using h2,h3,_,_,_,A⟩
 | n2 k n x y=>
  obtain⟨g,c,sx,sy,e,_,h1,h2,h3,h4,h5,h6⟩:=h;cases e;cases i with
  | zero=>
   obtain⟨b,d,A⟩:=h5.sl;exact⟨g,0,sx,rfl,lC h1,by simpa[PT.ab]using h1,by simpa using h2,h5,_,_,_,A⟩
  | succ i=>
   obtain rfl:i=0:=by simp[PT.len]at hi;omega
   obtain⟨b,d,A⟩:=h6.sl;exact⟨g,0,sy,rfl,lC h1,by simpa[PT.ab]using h3,by simpa using h4,h6,_,_,_,A⟩
theorem uG {a:nT}(A:oW w.heap.size w a){t:PT}(h:iU p w t s):iU p a t s:=h.move fun g hg hl=>⟨hg,A.block g hl⟩
theorem FG (ea:nX){a b:List Rw}(w5:a.length<=400)(w3:b.length<=400){t:PT}(hh:dZ t=true)(z4:pV a b t)(hs:iU p w t s)(hi:eS w iv [a,b])(hg:w.cell? ⟨0,0,none⟩=some (gJ ea))
  (x4:∀i,i<t.len->∀(W:nT)(s':nA),iU p W (t.ab i) s'->eS W iv [a,b]->W.cell? ⟨0,0,none⟩=some (gJ ea)->mO fM 170 #[.agg #[dQ (t.ab i),s'],iv,.func (.func 30) #[] #[],.func (.func 100) #[] #[]] W (IN ea a b (t.ab i) W)):
  mO fM 170 #[.agg #[dQ t,s],iv,.func (.func 30) #[] #[],.func (.func 100) #[] #[]] w (IN ea a b t w):=by
 have eg:=AW (P:=fM) jB (by kernel_rfl) rfl;have f9:=AW (P:=fM) gM (by kernel_rfl) rfl;have HR:=(show Hid _ from x4);have HH:=(show Hid (dZ t=true) from hh);have HF:=(show Hid (pV a b t) from z4);have z7:oW w.heap.size w (w.alloc (.cells #[dQ t,s] 161)):=aH (AP _ _) _;have Q:Bk (w.alloc (.cells #[dQ t,s] 161)) w.heap.size #[dQ t,s] 161:=Bk.new _ _ rfl;have a6:=(show Hid (iU p w t s) from hs);have z9:=(show Hid (eS w iv [a,b]) from hi);obtain⟨sa,sc,rfl⟩:=hs.sl;obtain⟨ig,d0,d5,f1,f0,d6,d4,rfl,-⟩:=hi.two;have f2:=PT.cd t;obtain⟨x0,x1,_,_⟩:=Q.two;clear hs hi x4 hh z4;go_enter Tryz.func170,Tryz.ntmps170;go_wp2_with fail;generalize w.alloc (.cells #[dQ t,.slice sa t.len sc] 161)=W0 at*;clear x0 x1
 go_loopw [10,20] (fun o i wr=>∃(k:Nat)(vs:List nA)(K:List (List Rw)),k<=t.len/\i=.int .i64 k/\K.length=k/\i7 wr (w.heap.size+1) o vs/\j7 wr (w.heap.size+1) vs K/\(∀j l,K[j]?=some l->cU a b (t.ab j)=some l)/\Bk wr w.heap.size #[dQ t,.slice sa t.len sc] 161/\oW w.heap.size w wr) (fun _ i _=>t.len-(intOf i).toNat)
 case atStart=>exact⟨0,[],[],by omega,rfl,rfl,oN _ _ _ _ _,j7.nil _ _,fun j l h=>by simp at h,Q,z7⟩
 case round=>
  clear z7 Q;obtain⟨k,vs,K,f6,rfl,H,x5,x8,z0,Q,hb⟩:=hrel;have HO:=(show Hid (i7 wr (w.heap.size+1) u10 vs) from x5);have HE:=(show Hid (j7 wr (w.heap.size+1) vs K) from x8);have HP:=(show Hid _ from z0);have HV:Hid (vs.length=k):=by show _=_;rw[x8.1,H]
  have w1:=hb.size;have d9:=Q.lt;clear x5 x8 z0
  by_cases x6:k<t.len
  ·have ik:((k:Int)<(t.len:Int)):=by omega
   have z3:=uG hb a6.out;obtain⟨g,off,sx,rfl,f7,c0,c1,x7,b2,m2,d2,rfl⟩:=P4 z3 x6;have bx:=Bk.new (w:=wr) #[dQ (t.ab k),.slice b2 m2 d2] 161 rfl;have Z:oW wr.heap.size wr (wr.alloc (.cells #[dQ (t.ab k),.slice b2 m2 d2] 161)):=aH (AP _ _) _;have J:=aG hb Z;have v0:=(show Hid _ from HR.out k x6 _ _ (uG Z x7) (z9.out.keep J) (cB J hg));obtain⟨q0,q1,_,_⟩:=bx.two;clear z3 x7 bx;go_wp2_with fail;refine C5 v0.out ?_;rintro e D ⟨z1,y3⟩;have y2:oW wr.heap.size wr D:=aG Z y3;have x9:=aG J y3;have d7:=y2.size;have y8:(wr.alloc (.cells #[dQ (t.ab k),.slice b2 m2 d2] 161)).heap.size=wr.heap.size+1:=by simp
   rw[y8]at z1;clear v0 q0 q1 Z J y3 c0 c1 y8
   rcases z1 with⟨o7,G,U,rfl,S⟩|⟨U,rfl⟩
   ·have f3:G.length<=400:=DY U;obtain⟨T,c7,e7,-⟩:=Rs.open (aC.rs S (by omega));subst e7;have bn:Bk (D.alloc (.cells #[.slice T G.length c7] 28)) D.heap.size #[.slice T G.length c7] 28:=Bk.new _ _ rfl;have h9:oW D.heap.size D (D.alloc (.cells #[.slice T G.length c7] 28)):=aH (AP _ _) _;have L:=aG y2 h9;have I:=(show Hid (i7 (D.alloc (.cells #[.slice T G.length c7] 28)) (w.heap.size+1) u10 vs) from cC HO.out L);have b3:=(show Hid (j7 (D.alloc (.cells #[.slice T G.length c7] 28)) (w.heap.size+1) (vs++[.slice T G.length c7]) (K++[G])) from (HE.out.keep L).snoc (cC (cW S (by omega)) h9) (by omega));have a9:Hid (∀j l,(K++[G])[j]?=some l->cU a b (t.ab j)=some l):=fun j l M=>by
     rcases Nat.lt_or_ge j K.length with h|h
     ·rw[tJ h]at M;exact HP.out j l M
     ·rw[qV h]at M;have:j=k:=by
       have:=(sD.1 M).1;simp at this;omega
      subst this;rw[H,Nat.sub_self]at M;cases M;exact U
    have a3:=Q.keep L;have b4:=(show Hid _ from aG x9 h9);have v9:(D.alloc (.cells #[.slice T G.length c7] 28)).heap.size=D.heap.size+1:=by simp
    clear S h9 L HO HE HP Q
    go_wp2_with (at_builtin;go_must (refine Np _ rfl _ _ rfl (w.heap.size+1) _ vs rfl I.out _ _ _ _ rfl bn (by have:=HV.out;omega) (by simp;omega) ?_);intro g9 e3 w9 v2 Y f5)
    have A:oW w.heap.size w w9:=Below.aU b4.out Y (by rw[v9];omega) (fun q e=>by have:=bU I.out q e;omega);have a2:Bk w9 w.heap.size #[dQ t,.slice (some ⟨g,off,none⟩) t.len sc] 161:=Bk.aU a3 Y (fun q e=>by have:=bU I.out q e;omega);refine⟨⟨k+1,_,_,by omega,by go_num,by simp[H],v2,b3.out.aU I.out Y,a9.out,a2,A⟩,?_⟩;simp[intOf];omega
   ·have HX:Hid (cU a b t=none):=Be x6 U;go_wp2_with fail;refine jO (v:= .tuple #[.slice none 0 0,gJ ea]) (by simp[results,iP,go_sem];try rfl) rfl ?_;exact⟨.inr ⟨HX.out,rfl⟩,x9⟩
  ·obtain rfl:k=t.len:=by omega
   have ik:¬((t.len:Int)<(t.len:Int)):=by omega
   have z8:Hid (cU a b t=rK (jN a b t K)):=FX HH.out H HP.out;have LK:=HE.out.ly HO.out (by have:=HV.out;omega);have hK:∀l∈K,bH l=true:=fun l hl=>by
    obtain⟨j,M⟩:=tL hl;exact lU (HP.out j l M)
   have HM:=(show Hid _ from Fg HH.out H hK w5 w3 (z9.out.keep hb) LK);have f8:=cB hb hg;obtain⟨ka,kc,a0⟩:=LK.sl;subst a0;obtain⟨y0,y1,_,_⟩:=Q.two;clear LK HO HE HP hK H;go_wp2_with fail;refine C5 HM.out ?_;rintro e w8 ⟨o8,rfl,R,f4,w4⟩;have v4:=aG hb w4;have R8:=aC.rs R (by omega);obtain⟨a8,c8,e8,-⟩:=Rs.open R8;subst e8;have I:=(show Hid (aC w8 w.heap.size _ _) from cW R w1);clear R HM y0 y1;generalize jN a b t K=O at*;go_wp2_with fail;refine (tW _ _ w8 R8).mono ?_;rintro e w9 ⟨rfl,z5⟩;have A:=aG v4 z5;cases ho:bH O
   ·have HX:Hid (cU a b t=none):=by show _=_;rw[z8.out,pG ho]
    have Y:=cB A hg;go_wp2_with fail
    go_quiet (fail)
    have d8:=cB (dV A nq) hg;go_wp2_with fail;refine jO (v:= .tuple #[.slice none 0 0,gJ ea]) (by simp[results,iP,go_sem];try rfl) rfl ?_;exact⟨.inr ⟨HX.out,rfl⟩,dV A _⟩
   ·have HX:Hid (cU a b t=some O):=by show _=_;rw[z8.out,mU ho]
    go_wp2_with fail;refine jO (v:= .tuple #[.slice a8 O.length c8,.nilIface]) (by simp[results,iP,go_sem];try rfl) rfl ?_;exact⟨.inl ⟨_,_,HX.out,rfl,cC I.out z5⟩,A⟩
theorem Gi (A:nX){a b:List Rw}(J:a.length<=400)(I:b.length<=400):∀(d:Nat)(t:PT){s:nA}{w:nT},cP t d=true->pV a b t->iU p w t s->eS w iv [a,b]->w.cell? ⟨0,0,none⟩=some (gJ A) ->
  mO fM 170 #[.agg #[dQ t,s],iv,.func (.func 30) #[] #[],.func (.func 100) #[] #[]] w (IN A a b t w):=by
 intro d
 induction d with
 | zero=>intro t s w hp;rw[lI]at hp;cases hp
 | succ d ih=>
  intro t s w hp hf hs hi hg;obtain⟨M,L⟩:=lA hp;exact FG A J I M hf hs hi hg fun i g W s' D G H=>ih (t.ab i) (L i g) (D7 hf g) D G H
theorem FZ (ea:nX){t:PT}{K:List (List Rw)}(x3:t.sm)(hs:dN B w t s)(hi:eS w iv K)(hg:w.cell? ⟨0,0,none⟩=some (gJ ea))(x5:∀a b,K=[a,b]->cP t 4=true->bH a=true->bH b=true->pV a b t):
  mO fM 99 #[pl t.k t.n s,iv,.func (.func 30) #[] #[],.func (.func 100) #[] #[]] w fun e w'=>∃o:nA,e=.returned (.tuple #[o,.bool (dK t K).isSome])/\aC w' w.heap.size o ((dK t K).getD [])/\oW w.heap.size w w':=by
 have bP:Bk (w.alloc (.cells #[.int .i64 t.k,.int .i64 t.n,s] 25)) w.heap.size #[.int .i64 t.k,.int .i64 t.n,s] 25:=Bk.new _ _ rfl;have L:oW w.heap.size w (w.alloc (.cells #[.int .i64 t.k,.int .i64 t.n,s] 25)):=aH (AP _ _) _;obtain⟨x0,x1,x2⟩:=bP.aR;have HC:=(show Hid _ from BW ea 4 t 1 (by omega) (by omega) x3 (hs.keep L) (cB L hg));have HI:=(show Hid (eS w iv K) from hi);have HF:=(show Hid _ from x5);obtain⟨a,c,rfl⟩:=hs.sl;obtain⟨ia,ic,rfl⟩:=hi.sl;clear hs x3 bP hi x5;go_enter Tryz.func99,Tryz.ntmps99;go_wp2_with fail;refine C5 HC.out ?_;rintro e w1 ⟨Q,x6⟩;have S:=aG L x6;clear HC x0 x1 x2
 rcases Q with⟨hp,a3,Z,c3,rfl,x4⟩|⟨hp,rfl⟩
 ·have D:=aH S (.cells #[dQ t,.slice a3 Z c3] 161);have bO:Bk (w1.alloc (.cells #[dQ t,.slice a3 Z c3] 161)) w1.heap.size #[dQ t,.slice a3 Z c3] 161:=Bk.new _ _ rfl;have R:=(show Hid _ from uG (aH (AP w1.heap.size w1) (.cells #[dQ t,.slice a3 Z c3] 161)) x4);have y7:=cB D hg;have HP:=(show Hid (cP t 4=true) from hp);clear x4 x6 S hp L
  by_cases h2:K.length=2
  ·have ik:((K.length:Int)==2)=true:=by simp;omega
   have v5:(K.length:Int)=2:=by omega
   have z0:=(show Hid (K.length=2) from h2);clear h2;go_wp2_with fail;refine (vM _ _).mono ?_;rintro e w2 ⟨rfl,rfl⟩;go_wp2_with fail;refine (IT _ K _ (HI.out.keep D)).mono ?_;rintro e w4 ⟨rfl,T⟩;have A:=aG D T;cases J:K.all bH
   ·have g:Hid (dK t K=none):=DE J;go_wp2_with fail;refine jO (v:= .tuple #[.slice none 0 0,.bool false]) (by simp[results,gX,go_sem];try rfl) rfl ?_;exact⟨_,by rw[g.out];rfl,by rw[g.out];exact oN _ _ _ _ _,A⟩
   ·obtain⟨O,lb,U⟩:=rJ z0.out;have G:bH O=true/\bH lb=true:=by rw[U]at J;simpa using J
    have g:Hid (dK t K=cU O lb t):=by show _=_;rw[U];exact DF HP.out G.1 G.2
    have HM:=(show Hid _ from Gi ea (vY G.1) (vY G.2) 4 t HP.out (HF.out O lb U HP.out G.1 G.2) (uG T R.out) (by rw[<- U];exact HI.out.keep A) (cB A hg));have x7:=bO.keep T;obtain⟨y0,y1,_,_⟩:=x7.two;clear R HF U G bO x7;go_wp2_with fail;refine C5 HM.out ?_;rintro e w5 ⟨Q,y8⟩;have I:=aG A y8;have y6:=A.size;have v6:=cB I hg;clear HM
    rcases Q with⟨o5,r5,H,rfl,M⟩|⟨H,rfl⟩
    ·have O5:=(show Hid (aC w5 w.heap.size o5 r5) from cW M y6);have Y:=(show Hid (cU O lb t=some r5) from H);clear M H;go_wp2_with fail;refine (vM _ _).mono ?_;rintro e w6 ⟨rfl,rfl⟩;go_wp2_with fail;refine jO (v:= .tuple #[o5,.bool true]) (by simp[results,gX,go_sem];try rfl) rfl ?_;exact⟨_,by rw[g.out,Y.out];rfl,by rw[g.out,Y.out];exact O5.out,I⟩
    ·have Y:=(show Hid (cU O lb t=none) from H);clear H;go_wp2_with fail;refine (zI _ _).mono ?_;rintro e w6 ⟨rfl,rfl⟩;go_wp2_with fail;refine jO (v:= .tuple #[.slice none 0 0,.bool false]) (by simp[results,gX,go_sem];try rfl) rfl ?_;exact⟨_,by rw[g.out,Y.out];rfl,by rw[g.out,Y.out];exact oN _ _ _ _ _,I⟩
  ·have ik:((K.length:Int)==2)=false:=by simp;omega
   have g:Hid (dK t K=none):=DB h2;go_wp2_with fail;refine (vM _ _).mono ?_;rintro e w2 ⟨rfl,rfl⟩;go_wp2_with fail;refine jO (v:= .tuple #[.slice none 0 0,.bool false]) (by simp[results,gX,go_sem];try rfl) rfl ?_;exact⟨_,by rw[g.out];rfl,by rw[g.out];exact oN _ _ _ _ _,D⟩
 ·have D:=aH S (.cells #[.nilIface,.slice none 0 0] 161);have y7:=cB D hg;have g:Hid (dK t K=none):=DA hp;go_wp2_with fail;refine (zI _ _).mono ?_;rintro e w2 ⟨rfl,rfl⟩;go_wp2_with fail;refine jO (v:= .tuple #[.slice none 0 0,.bool false]) (by simp[results,gX,go_sem];try rfl) rfl ?_;exact⟨_,by rw[g.out];rfl,by rw[g.out];exact oN _ _ _ _ _,D⟩
theorem sV (L:nX){t:PT}{K:List (List Rw)}(D:t.sm)(hs:dN B w t s)(hi:eS w iv K)(hg:w.cell? ⟨0,0,none⟩=some (gJ L))(G:∀a b,K=[a,b]->cP t 4=true->bH a=true->bH b=true->pV a b t):
  mO fM 36 #[pl t.k t.n s,iv] w fun e H=>∃o:nA,e=.returned (.tuple #[o,.bool (dK t K).isSome])/\aC H w.heap.size o ((dK t K).getD [])/\oW w.heap.size w H:=by
 have M:Bk (w.alloc (.cells #[.int .i64 t.k,.int .i64 t.n,s] 25)) w.heap.size #[.int .i64 t.k,.int .i64 t.n,s] 25:=Bk.new _ _ rfl;have g:oW w.heap.size w (w.alloc (.cells #[.int .i64 t.k,.int .i64 t.n,s] 25)):=aH (AP _ _) _;obtain⟨S,R,Q⟩:=M.aR;have O:=(show Hid _ from FZ L D (hs.keep g) (hi.keep g) (cB g hg) G);obtain⟨a,c,rfl⟩:=hs.sl;obtain⟨Y,U,rfl⟩:=hi.sl;clear hs hi D G M;go_enter Tryz.func36,Tryz.ntmps36;go_wp2_with fail;refine C5 O.out ?_;rintro e w1 ⟨o,rfl,A,J⟩;have I:=g.size;have T:=(show Hid (aC w1 w.heap.size o ((dK t K).getD [])) from cW A I);clear A O S R Q;go_wp2_with fail;refine jO (v:= .tuple #[o,.bool (dK t K).isSome]) (by simp[results,Tryz.results36,go_sem];try rfl) rfl ?_;exact⟨_,rfl,T.out,aG g J⟩
def M4 (a b:List Rw)(t:PT)(w:nT)(e:Ending)(w':nT):Prop:=
 ((∃o r,cU a b t=some r/\e=.returned (.tuple #[o,.bool true])/\aC w' w.heap.size o r)\/(cU a b t=none/\∃x n c,e=.returned (.tuple #[.slice x n c,.bool false])))/\oW w.heap.size w w'
theorem LF {a b:List Rw}(l3:a.length<=400)(l2:b.length<=400){t:PT}(hh:dZ t=true)(g8:pV a b t)(hs:dN B w t s)(hi:eS w iv [a,b])
  (d8:∀i,i<t.len->∀(W:nT)(s':nA),dN B W (t.ab i) s'->eS W iv [a,b]->mO fM 137 #[pl (t.ab i).k (t.ab i).n s',iv] W (M4 a b (t.ab i) W)):
  mO fM 137 #[pl t.k t.n s,iv] w (M4 a b t w):=by
 have HR:=(show Hid _ from d8);have HH:=(show Hid (dZ t=true) from hh);have HF:=(show Hid (pV a b t) from g8);have bP:Bk ((w.alloc (.cells #[.int .i64 t.k,.int .i64 t.n,s] 25)).alloc (.cells #[] 28)) w.heap.size #[.int .i64 t.k,.int .i64 t.n,s] 25:=(Bk.new _ _ rfl).alloc _;have oV:i7 ((w.alloc (.cells #[.int .i64 t.k,.int .i64 t.n,s] 25)).alloc (.cells #[] 28)) (w.heap.size+1) (.slice (some ⟨w.heap.size+1,0,none⟩) 0 0) []:=Gp _ (by simp);have i0:oW w.heap.size w ((w.alloc (.cells #[.int .i64 t.k,.int .i64 t.n,s] 25)).alloc (.cells #[] 28)):=aH (aH (AP _ _) _) _;have i1:=(show Hid (dN B w t s) from hs);have i2:=(show Hid (eS w iv [a,b]) from hi);obtain⟨sa,sc,rfl⟩:=hs.sl;obtain⟨ig,d5,o1,g0,f7,d7,d6,rfl,r0,f9,f8,g2,g1,n3,m5⟩:=hi.two;have IC:=(show Hid (w.cell? ⟨ig,d5,none⟩=some (.slice g0 a.length f7)/\w.cell? ⟨ig,d5+1,none⟩=some (.slice d7 b.length d6)/\Rs w (.slice g0 a.length f7) a/\Rs w (.slice d7 b.length d6) b) from⟨f9,f8,g2,g1⟩);have q1:=PT.cd t;clear hs hi d8 hh g8 f9 f8 g2 g1;go_enter Tryz.func137,Tryz.ntmps137;go_wp2_with fail;generalize ((w.alloc (.cells #[.int .i64 t.k,.int .i64 t.n,.slice sa t.len sc] 25)).alloc (.cells #[] 28))=W0 at*
 go_loopw [6,7] (fun o i wr=>∃(k:Nat)(vs:List nA)(K:List (List Rw)),k<=t.len/\i=.int .i64 k/\K.length=k/\i7 wr (w.heap.size+1) o vs/\j7 wr (w.heap.size+1) vs K/\(∀j l,K[j]?=some l->cU a b (t.ab j)=some l)/\Bk wr w.heap.size #[.int .i64 t.k,.int .i64 t.n,.slice sa t.len sc] 25/\oW w.heap.size w wr) (fun _ i _=>t.len-(intOf i).toNat)
 case atStart=>exact⟨0,[],[],by omega,rfl,rfl,oV,j7.nil _ _,fun j l h=>by simp at h,bP,i0⟩
 case round=>
  clear i0 bP oV;obtain⟨k,vs,K,q6,rfl,y4,d9,e5,g6,bP,hb⟩:=hrel;have HO:=(show Hid (i7 wr (w.heap.size+1) u6 vs) from d9);have HE:=(show Hid (j7 wr (w.heap.size+1) vs K) from e5);have HP:=(show Hid _ from g6);have HV:Hid (vs.length=k):=by show _=_;rw[e5.1,y4]
  have g3:=hb.size;have o3:=bP.lt;obtain⟨x0,x1,x2⟩:=bP.aR;clear d9 e5 g6
  by_cases e1:k<t.len
  ·have ik:((k:Int)<(t.len:Int)):=by omega
   have g7:=i1.out.keep hb;obtain⟨g,off,sx,rfl,r1,c0,c1,c2,e2,b2,m2,d2,rfl⟩:=g7.at e1;have i3:=(show Hid _ from HR.out k e1 wr _ e2 (i2.out.keep hb));clear g7 e2;go_wp2_with fail;refine C5 i3.out ?_;rintro e w7 ⟨k4,f0⟩;have e9:=aG hb f0;have o2:=f0.size;clear i3 c0 c1 c2 x0 x1 x2
   rcases k4 with⟨o7,r7,b6,rfl,b3⟩|⟨b6,z1,z2,z3,rfl⟩
   ·have q4:r7.length<=400:=DY b6;obtain⟨a7,c7,e7,-⟩:=Rs.open (aC.rs b3 (by omega));subst e7;have bn:Bk (w7.alloc (.cells #[.slice a7 r7.length c7] 28)) w7.heap.size #[.slice a7 r7.length c7] 28:=Bk.new _ _ rfl;have c4:oW w7.heap.size w7 (w7.alloc (.cells #[.slice a7 r7.length c7] 28)):=aH (AP _ _) _;have a4:=aG f0 c4;have S:=(show Hid (i7 (w7.alloc (.cells #[.slice a7 r7.length c7] 28)) (w.heap.size+1) u6 vs) from cC HO.out a4);have m3:=(show Hid (j7 (w7.alloc (.cells #[.slice a7 r7.length c7] 28)) (w.heap.size+1) (vs++[.slice a7 r7.length c7]) (K++[r7])) from (HE.out.keep a4).snoc (cC (cW b3 (by omega)) c4) (by omega));have l9:Hid (∀j l,(K++[r7])[j]?=some l->cU a b (t.ab j)=some l):=fun j l hj=>by
     rcases Nat.lt_or_ge j K.length with h|h
     ·rw[tJ h]at hj;exact HP.out j l hj
     ·rw[qV h]at hj;have:j=k:=by
       have:=(sD.1 hj).1;simp at this;omega
      subst this;rw[y4,Nat.sub_self]at hj;cases hj;exact b6
    have l5:=bP.keep a4;have m4:=(show Hid _ from aG e9 c4);have k3:(w7.alloc (.cells #[.slice a7 r7.length c7] 28)).heap.size=w7.heap.size+1:=by simp
    clear b3 c4 a4 HO HE HP bP
    go_wp2_with (at_builtin;go_must (refine Np _ rfl _ _ rfl (w.heap.size+1) _ vs rfl S.out _ _ _ _ rfl bn (by have:=HV.out;omega) (by simp;omega) ?_);intro g9 o5 w9 L e3 q5)
    have G:oW w.heap.size w w9:=Below.aU m4.out e3 (by rw[k3];omega) (fun q e=>by have:=bU S.out q e;omega);have l4:Bk w9 w.heap.size #[.int .i64 t.k,.int .i64 t.n,.slice (some ⟨g,off,none⟩) t.len sc] 25:=Bk.aU l5 e3 (fun q e=>by have:=bU S.out q e;omega);refine⟨⟨k+1,_,_,by omega,by go_num,by simp[y4],L,m3.out.aU S.out e3,l9.out,l4,G⟩,?_⟩;simp[intOf];omega
   ·have H:Hid (cU a b t=none):=Be e1 b6;go_wp2_with fail;refine jO (by simp[results,fQ,go_sem];try rfl) rfl ?_;exact⟨.inr ⟨H.out,_,_,_,rfl⟩,aH e9 _⟩
  ·obtain rfl:k=t.len:=by omega
   have ik:¬((t.len:Int)<(t.len:Int)):=by omega
   have x3:Hid (cU a b t=rK (jN a b t K)):=FX HH.out y4 HP.out;have LK:=HE.out.ly HO.out (by have:=HV.out;omega);have z5:∀l∈K,bH l=true:=fun l hl=>by
    obtain⟨j,hj⟩:=tL hl;exact lU (HP.out j l hj)
   have v9:=FQ (t:=t) z5 l3 l2;obtain⟨p1,p2,p3,p4⟩:=m6 HH.out;have q3:(wr.alloc (.cells #[] 55)).heap.size=wr.heap.size+1:=by simp
   have U:oW wr.heap.size wr (wr.alloc (.cells #[] 55)):=aH (AP _ _) _;have O:=aG hb U;have oE:=lT wr rfl;clear HO HE HP HR i1 i2 HV x0 x1;have Y:=bP.keep U;clear bP;have k5:t.k=1\/t.k=2\/t.k=3\/t.k=4\/t.k=5\/t.k=6:=by omega
   rcases k5 with hk|hk|hk|hk|hk|hk
   ·rw[hk]at p3 p4 Y;clear p2 y4;simp[eH,eP]at p3 p4;have hn:t.n=0\/t.n=1:=by omega
    rcases hn with hn|hn
    ·have I:Hid (jN a b t K=a):=by show _=_;unfold jN;rw[if_pos hk,if_pos hn]
     rw[I.out]at v9;rw[hn]at Y;obtain⟨y0,y1,y2⟩:=Y.aR;have d0:=cB O IC.out.1;have RA:=IC.out.2.2.1.keep O
     go_wp2_with (at_builtin;refine oG _ rfl _ _ rfl wr.heap.size _ [] rfl oE _ a rfl RA (by simp;omega) (by simp) ?_;intro v8 J A e4)
     have T:oW w.heap.size w J:=Below.aU O e4 (by omega) (fun q e=>by have:=bU oE q e;omega);have A:aC J w.heap.size v8 a:=by have:=cW A g3;simpa using this
     have R8:=aC.rs A (by omega);obtain⟨a8,c8,e8,-⟩:=Rs.open R8;subst e8;have S:=(show Hid (aC J w.heap.size _ a) from A);clear A;refine (sB _ _ J R8).mono ?_;rintro e w9 ⟨rfl,Q⟩;have G:=aG T Q;cases ho:bH a
     ·have H:Hid (cU a b t=none):=by show _=_;rw[x3.out,I.out,pG ho]
      go_wp2_with fail;refine jO (v:= .tuple #[.slice a8 a.length c8,.bool false]) (by simp[results,fQ,go_sem];try rfl) rfl ?_;exact⟨.inr ⟨H.out,_,_,_,rfl⟩,G⟩
     ·have H:Hid (cU a b t=some a):=by show _=_;rw[x3.out,I.out,mU ho]
      go_wp2_with fail;refine jO (v:= .tuple #[.slice a8 a.length c8,.bool true]) (by simp[results,fQ,go_sem];try rfl) rfl ?_;exact⟨.inl ⟨_,_,H.out,rfl,cC S.out Q⟩,G⟩
    ·have I:Hid (jN a b t K=b):=by show _=_;unfold jN;rw[if_pos hk,if_neg (by omega)]
     rw[I.out]at v9;rw[hn]at Y;obtain⟨y0,y1,y2⟩:=Y.aR;have d0:=cB O IC.out.2.1;have RA:=IC.out.2.2.2.keep O
     go_wp2_with (at_builtin;refine oG _ rfl _ _ rfl wr.heap.size _ [] rfl oE _ b rfl RA (by simp;omega) (by simp) ?_;intro v8 J A e4)
     have T:oW w.heap.size w J:=Below.aU O e4 (by omega) (fun q e=>by have:=bU oE q e;omega);have A:aC J w.heap.size v8 b:=by have:=cW A g3;simpa using this
     have R8:=aC.rs A (by omega);obtain⟨a8,c8,e8,-⟩:=Rs.open R8;subst e8;have S:=(show Hid (aC J w.heap.size _ b) from A);clear A;refine (sB _ _ J R8).mono ?_;rintro e w9 ⟨rfl,Q⟩;have G:=aG T Q;cases ho:bH b
     ·have H:Hid (cU a b t=none):=by show _=_;rw[x3.out,I.out,pG ho]
      go_wp2_with fail;refine jO (v:= .tuple #[.slice a8 b.length c8,.bool false]) (by simp[results,fQ,go_sem];try rfl) rfl ?_;exact⟨.inr ⟨H.out,_,_,_,rfl⟩,G⟩
     ·have H:Hid (cU a b t=some b):=by show _=_;rw[x3.out,I.out,mU ho]
      go_wp2_with fail;refine jO (v:= .tuple #[.slice a8 b.length c8,.bool true]) (by simp[results,fQ,go_sem];try rfl) rfl ?_;exact⟨.inl ⟨_,_,H.out,rfl,cC S.out Q⟩,G⟩
   ·rw[hk]at p2 p3 p4 Y;obtain⟨x,rfl⟩:∃x,K=[x]:=by
     have hx:K.length=1:=by
      have:fO 2=1:=rfl;omega
     match K,hx with
     | [x],_=>exact⟨x,rfl⟩
    clear p2 y4;have I:Hid (jN a b t [x]=aO aW (cJ t.n x)):=by show _=_;unfold jN;rw[if_neg (by omega),hk];rfl
    rw[I.out]at v9;have hx:=z5 x (by simp);have y6:=jA hx;have hw:cG t.n 1 7=true:=by simp[eH,eP]at p3 p4;simp[cG];exact⟨p3,p4⟩
    obtain⟨kg,M,a3,x7,x6,rfl,b7,Z,h9,z8,z7⟩:=LK.one;obtain⟨y0,y1,y2⟩:=Y.aR;have d0:=cB U Z;have z4:=O.size;have rE:=h9.keep U;clear LK Z h9;go_wp2_with fail;generalize (wr.alloc (.cells #[] 55))=D at*;have H:Hid (∀W,oW D.heap.size D W->W.cell? ⟨kg,M,none⟩=some (.slice x7 x.length x6)/\W.cell? ⟨w.heap.size,1,none⟩=some (.int .i64 t.n)):=fun W hW=>⟨cB hW d0,cB hW y1⟩;have R:oW D.heap.size D D.drew:=(AP _ _).drew;have rD:=rE.keep R
    go_region_held3 (fun W=>W.cell? ⟨kg,M,none⟩=some (.slice x7 x.length x6)/\W.cell? ⟨w.heap.size,1,none⟩=some (.int .i64 t.n))
     (first|exact H.out _ R|exact H.out _ x9)
     (first
      | (go_at_call 188;with_reducible refine (GX _ x _ _ rD y6 hw).mono ?_;rintro e J ⟨o8,rfl,L,y7⟩;have x9:oW D.heap.size D J:=aG R y7))
    have T:oW w.heap.size w J:=aG O x9;have A:aC J w.heap.size o8 (aO aW (cJ t.n x)):=cW L (by simpa using z4);clear L d0 y0 y1 y2;have R8:=aC.rs A (by omega);obtain⟨a8,c8,e8,-⟩:=Rs.open R8;subst e8;have S:=(show Hid (aC J w.heap.size _ (aO aW (cJ t.n x))) from A);clear A;go_wp2_with fail;refine (sB _ _ J R8).mono ?_;rintro e w9 ⟨rfl,Q⟩;have G:=aG T Q;cases ho:bH (aO aW (cJ t.n x))
    ·have H:Hid (cU a b t=none):=by show _=_;rw[x3.out,I.out,pG ho]
     go_wp2_with fail;refine jO (v:= .tuple #[.slice a8 (aO aW (cJ t.n x)).length c8,.bool false]) (by simp[results,fQ,go_sem];try rfl) rfl ?_;exact⟨.inr ⟨H.out,_,_,_,rfl⟩,G⟩
    ·have H:Hid (cU a b t=some (aO aW (cJ t.n x))):=by show _=_;rw[x3.out,I.out,mU ho]
     go_wp2_with fail;refine jO (v:= .tuple #[.slice a8 (aO aW (cJ t.n x)).length c8,.bool true]) (by simp[results,fQ,go_sem];try rfl) rfl ?_;exact⟨.inl ⟨_,_,H.out,rfl,cC S.out Q⟩,G⟩
   ·rw[hk]at p2 p3 p4 Y;obtain⟨x,y,rfl⟩:∃x y,K=[x,y]:=by
     have hx:K.length=2:=by
      have:fO 3=2:=rfl;omega
     exact rJ hx
    clear p2 y4;have I:Hid (jN a b t [x,y]=aO aW (x++y)):=by show _=_;unfold jN;rw[if_neg (by omega),hk];rfl
    rw[I.out]at v9;have hx:=z5 x (by simp);have hy:=z5 y (by simp);have y6:=jA hx;have b5:=jA hy;have p9:=i6 y6;have p5:=i6 b5;have q0:=Ea y6 b5;obtain⟨kg,M,a3,x7,x6,v7,v6,rfl,b7,Z,a6,h9,a9,z8,z7⟩:=LK.two;obtain⟨y0,y1,y2⟩:=Y.aR;have d0:=cB U Z;have d1:=cB U a6;have z4:=O.size;have rE:=h9.keep U;have d3:=a9.keep U;clear LK Z a6 h9 a9;go_wp2_with fail;generalize (wr.alloc (.cells #[] 55))=D at*;have H:Hid (∀W,oW D.heap.size D W->W.cell? ⟨kg,M,none⟩=some (.slice x7 x.length x6)/\W.cell? ⟨kg,M+1,none⟩=some (.slice v7 y.length v6)):=fun W hW=>⟨cB hW d0,cB hW d1⟩;have R:oW D.heap.size D D.drew:=(AP _ _).drew;have b8:oW D.heap.size D (D.alloc (.cells #[] 55)).drew:=(aH (AP _ _) _).drew;have O0:aC (D.alloc (.cells #[] 55)).drew D.heap.size (.slice (some ⟨D.heap.size,0,none⟩) 0 0) []:=cC (lT D rfl) (AP _ _).drew;have rD:=rE.keep b8;have g4:=b8.size;have m0:Hid (∀(W:nT)(v:nA),aC W D.heap.size v ([]++x)->aC W D.heap.size v x):=fun W v h=>h
    go_region_held3 (fun W=>W.cell? ⟨kg,M,none⟩=some (.slice x7 x.length x6)/\W.cell? ⟨kg,M+1,none⟩=some (.slice v7 y.length v6))
     (first|exact H.out _ R|exact H.out _ b8|exact H.out _ b9|exact H.out _ e6|exact H.out _ x9)
     (first
      | (refine rH _ (by rfl) _ _ (by rfl) D.heap.size (.slice (some ⟨D.heap.size,0,none⟩) 0 0) [] (by first|rfl|(simp[go_sem];done)) O0 _ x (by first|rfl|(simp[go_sem];done)) rD (by simp;omega) g4 ?_;intro v4 w4 i8 l1;have b9:oW D.heap.size D w4:=Below.aU b8 l1 g4 (bU O0);have O4:=m0.out _ _ i8;have d4:=d3.keep b9;have g5:=b9.size)
      | (refine rH _ (by rfl) _ _ (by rfl) D.heap.size _ x (by first|rfl|(simp[go_sem];done)) O4 _ y (by first|rfl|(simp[go_sem];done)) d4 (by omega) g5 ?_;intro v5 w5 i5 l0;have e6:oW D.heap.size D w5:=Below.aU b9 l0 g5 (bU O4);have R5:=aC.rs i5 (by simp;omega);have q2:=e6.size)
      | (go_at_call 77;refine (kY _ (x++y) _ R5 (by simp;omega) (by omega)).mono ?_;rintro e J ⟨o8,rfl,L,y7⟩;have x9:oW D.heap.size D J:=aG e6 y7))
    have T:oW w.heap.size w J:=aG O x9;have A:aC J w.heap.size o8 (aO aW (x++y)):=cW L (by omega);clear L d0 d1 y0 y1 y2;have R8:=aC.rs A (by omega);obtain⟨a8,c8,e8,-⟩:=Rs.open R8;subst e8;have S:=(show Hid (aC J w.heap.size _ (aO aW (x++y))) from A);clear A;go_wp2_with fail;refine (sB _ _ J R8).mono ?_;rintro e w9 ⟨rfl,Q⟩;have G:=aG T Q;cases ho:bH (aO aW (x++y))
    ·have H:Hid (cU a b t=none):=by show _=_;rw[x3.out,I.out,pG ho]
     go_wp2_with fail;refine jO (v:= .tuple #[.slice a8 (aO aW (x++y)).length c8,.bool false]) (by simp[results,fQ,go_sem];try rfl) rfl ?_;exact⟨.inr ⟨H.out,_,_,_,rfl⟩,G⟩
    ·have H:Hid (cU a b t=some (aO aW (x++y))):=by show _=_;rw[x3.out,I.out,mU ho]
     go_wp2_with fail;refine jO (v:= .tuple #[.slice a8 (aO aW (x++y)).length c8,.bool true]) (by simp[results,fQ,go_sem];try rfl) rfl ?_;exact⟨.inl ⟨_,_,H.out,rfl,cC S.out Q⟩,G⟩
   ·rw[hk]at p2 p3 p4 Y;obtain⟨x,rfl⟩:∃x,K=[x]:=by
     have hx:K.length=1:=by
      have:fO 4=1:=rfl;omega
     match K,hx with
     | [x],_=>exact⟨x,rfl⟩
    clear p2 y4;have I:Hid (jN a b t [x]=dW x):=by show _=_;unfold jN;rw[if_neg (by omega),hk];rfl
    rw[I.out]at v9;have hx:=z5 x (by simp);have y6:=jA hx;obtain⟨kg,M,a3,x7,x6,rfl,b7,Z,h9,z8,z7⟩:=LK.one;obtain⟨y0,y1,y2⟩:=Y.aR;have d0:=cB U Z;have z4:=O.size;have rE:=h9.keep U;clear LK Z h9;go_wp2_with fail;refine (oP _ x _ rE).mono ?_;rintro e J ⟨o8,rfl,L,y7⟩;have T:oW w.heap.size w J:=aG O y7;have A:aC J w.heap.size o8 (dW x):=cW L z4;clear L d0 y0 y1 y2;have R8:=aC.rs A (by omega);obtain⟨a8,c8,e8,-⟩:=Rs.open R8;subst e8;have S:=(show Hid (aC J w.heap.size _ (dW x)) from A);clear A;go_wp2_with fail;refine (sB _ _ J R8).mono ?_;rintro e w9 ⟨rfl,Q⟩;have G:=aG T Q;cases ho:bH (dW x)
    ·have H:Hid (cU a b t=none):=by show _=_;rw[x3.out,I.out,pG ho]
     go_wp2_with fail;refine jO (v:= .tuple #[.slice a8 (dW x).length c8,.bool false]) (by simp[results,fQ,go_sem];try rfl) rfl ?_;exact⟨.inr ⟨H.out,_,_,_,rfl⟩,G⟩
    ·have H:Hid (cU a b t=some (dW x)):=by show _=_;rw[x3.out,I.out,mU ho]
     go_wp2_with fail;refine jO (v:= .tuple #[.slice a8 (dW x).length c8,.bool true]) (by simp[results,fQ,go_sem];try rfl) rfl ?_;exact⟨.inl ⟨_,_,H.out,rfl,cC S.out Q⟩,G⟩
   ·rw[hk]at p2 p3 p4 Y;obtain⟨x,y,rfl⟩:∃x y,K=[x,y]:=by
     have hx:K.length=2:=by
      have:fO 5=2:=rfl;omega
     exact rJ hx
    clear p2 y4;have I:Hid (jN a b t [x,y]=aO aW (cY x y)):=by show _=_;unfold jN;rw[if_neg (by omega),hk];rfl
    rw[I.out]at v9;have hx:=z5 x (by simp);have hy:=z5 y (by simp);have y6:=jA hx;have b5:=jA hy;obtain⟨kg,M,a3,x7,x6,v7,v6,rfl,b7,Z,a6,h9,a9,z8,z7⟩:=LK.two;obtain⟨y0,y1,y2⟩:=Y.aR;have d0:=cB U Z;have d1:=cB U a6;have z4:=O.size;have rE:=h9.keep U;have d3:=a9.keep U;clear LK Z a6 h9 a9;go_wp2_with fail;generalize (wr.alloc (.cells #[] 55))=D at*;have H:Hid (∀W,oW D.heap.size D W->W.cell? ⟨kg,M,none⟩=some (.slice x7 x.length x6)/\W.cell? ⟨kg,M+1,none⟩=some (.slice v7 y.length v6)):=fun W hW=>⟨cB hW d0,cB hW d1⟩;have R:oW D.heap.size D D.drew:=(AP _ _).drew;have rD:=rE.keep R;have d4:=d3.keep R
    go_region_held3 (fun W=>W.cell? ⟨kg,M,none⟩=some (.slice x7 x.length x6)/\W.cell? ⟨kg,M+1,none⟩=some (.slice v7 y.length v6))
     (first|exact H.out _ R|exact H.out _ x9)
     (first
      | (go_at_call 189;with_reducible refine (GY _ _ x y _ rD d4 y6 b5).mono ?_;rintro e J ⟨o8,rfl,L,y7⟩;have x9:oW D.heap.size D J:=aG R y7))
    have T:oW w.heap.size w J:=aG O x9;have A:aC J w.heap.size o8 (aO aW (cY x y)):=cW L (by simpa using z4);clear L d0 d1 y0 y1 y2;have R8:=aC.rs A (by omega);obtain⟨a8,c8,e8,-⟩:=Rs.open R8;subst e8;have S:=(show Hid (aC J w.heap.size _ (aO aW (cY x y))) from A);clear A;go_wp2_with fail;refine (sB _ _ J R8).mono ?_;rintro e w9 ⟨rfl,Q⟩;have G:=aG T Q;cases ho:bH (aO aW (cY x y))
    ·have H:Hid (cU a b t=none):=by show _=_;rw[x3.out,I.out,pG ho]
     go_wp2_with fail;refine jO (v:= .tuple #[.slice a8 (aO aW (cY x y)).length c8,.bool false]) (by simp[results,fQ,go_sem];try rfl) rfl ?_;exact⟨.inr ⟨H.out,_,_,_,rfl⟩,G⟩
    ·have H:Hid (cU a b t=some (aO aW (cY x y))):=by show _=_;rw[x3.out,I.out,mU ho]
     go_wp2_with fail;refine jO (v:= .tuple #[.slice a8 (aO aW (cY x y)).length c8,.bool true]) (by simp[results,fQ,go_sem];try rfl) rfl ?_;exact⟨.inl ⟨_,_,H.out,rfl,cC S.out Q⟩,G⟩
   ·rw[hk]at p2 p3 p4 Y;obtain⟨x,rfl⟩:∃x,K=[x]:=by
     have hx:K.length=1:=by
      have:fO 6=1:=rfl;omega
     match K,hx with
     | [x],_=>exact⟨x,rfl⟩
    clear p2 y4;have I:Hid (jN a b t [x]=aO aW (fT t.n x)):=by show _=_;unfold jN;rw[if_neg (by omega),hk];rfl
    rw[I.out]at v9;have hx:=z5 x (by simp);have y6:=jA hx;have hw:cG t.n 1 3=true:=by simp[eH,eP]at p3 p4;simp[cG];exact⟨p3,p4⟩
    obtain⟨kg,M,a3,x7,x6,rfl,b7,Z,h9,z8,z7⟩:=LK.one;obtain⟨y0,y1,y2⟩:=Y.aR;have d0:=cB U Z;have z4:=O.size;have rE:=h9.keep U;clear LK Z h9;go_wp2_with fail;generalize (wr.alloc (.cells #[] 55))=D at*;have H:Hid (∀W,oW D.heap.size D W->W.cell? ⟨kg,M,none⟩=some (.slice x7 x.length x6)/\W.cell? ⟨w.heap.size,1,none⟩=some (.int .i64 t.n)):=fun W hW=>⟨cB hW d0,cB hW y1⟩;have R:oW D.heap.size D D.drew:=(AP _ _).drew;have rD:=rE.keep R
    go_region_held3 (fun W=>W.cell? ⟨kg,M,none⟩=some (.slice x7 x.length x6)/\W.cell? ⟨w.heap.size,1,none⟩=some (.int .i64 t.n))
     (first|exact H.out _ R|exact H.out _ x9)
     (first
      | (go_at_call 190;with_reducible refine (Iq _ x _ _ rD y6 hw).mono ?_;rintro e J ⟨o8,rfl,L,y7⟩;have x9:oW D.heap.size D J:=aG R y7))
    have T:oW w.heap.size w J:=aG O x9;have A:aC J w.heap.size o8 (aO aW (fT t.n x)):=cW L (by simpa using z4);clear L d0 y0 y1 y2;have R8:=aC.rs A (by omega);obtain⟨a8,c8,e8,-⟩:=Rs.open R8;subst e8;have S:=(show Hid (aC J w.heap.size _ (aO aW (fT t.n x))) from A);clear A;go_wp2_with fail;refine (sB _ _ J R8).mono ?_;rintro e w9 ⟨rfl,Q⟩;have G:=aG T Q;cases ho:bH (aO aW (fT t.n x))
    ·have H:Hid (cU a b t=none):=by show _=_;rw[x3.out,I.out,pG ho]
     go_wp2_with fail;refine jO (v:= .tuple #[.slice a8 (aO aW (fT t.n x)).length c8,.bool false]) (by simp[results,fQ,go_sem];try rfl) rfl ?_;exact⟨.inr ⟨H.out,_,_,_,rfl⟩,G⟩
    ·have H:Hid (cU a b t=some (aO aW (fT t.n x))):=by show _=_;rw[x3.out,I.out,mU ho]
     go_wp2_with fail;refine jO (v:= .tuple #[.slice a8 (aO aW (fT t.n x)).length c8,.bool true]) (by simp[results,fQ,go_sem];try rfl) rfl ?_;exact⟨.inl ⟨_,_,H.out,rfl,cC S.out Q⟩,G⟩
theorem NK {a b:List Rw}(H:a.length<=400)(G:b.length<=400):∀(d:Nat)(t:PT){s:nA}{w:nT},cP t d=true->pV a b t->dN B w t s->eS w iv [a,b]->mO fM 137 #[pl t.k t.n s,iv] w (M4 a b t w):=by
 intro d
 induction d with
 | zero=>intro t s w hp;rw[lI]at hp;cases hp
 | succ d ih=>
  intro t s w hp hf hs hi;obtain⟨J,I⟩:=lA hp;exact LF H G J hf hs hi fun i g W s' A D=>ih (t.ab i) (I i g) (D7 hf g) A D
theorem p7 {t:PT}{K:List (List Rw)}(hs:dN B w t s)(hi:eS w iv K)(h9:∀a b,K=[a,b]->cP t 4=true->bH a=true->bH b=true->pV a b t):
  mO fM 69 #[pl t.k t.n s,iv] w fun e w'=>∃o:nA,e=.returned (.tuple #[o,.bool (dK t K).isSome])/\aC w' w.heap.size o ((dK t K).getD [])/\oW w.heap.size w w':=by
 have bP:Bk (w.alloc (.cells #[.int .i64 t.k,.int .i64 t.n,s] 25)) w.heap.size #[.int .i64 t.k,.int .i64 t.n,s] 25:=Bk.new _ _ rfl;have x4:oW w.heap.size w (w.alloc (.cells #[.int .i64 t.k,.int .i64 t.n,s] 25)):=aH (AP _ _) _;obtain⟨x0,x1,x2⟩:=bP.aR;have HS:=(show Hid (dN B w t s) from hs);have HI:=(show Hid (eS w iv K) from hi);have HF:=(show Hid _ from h9);obtain⟨a,c,rfl⟩:=hs.sl;obtain⟨ia,ic,rfl,a2,v0,a1,-⟩:=hi.open;unfold maxLen at v0;clear hs hi h9;go_enter Tryz.func69,Tryz.ntmps69;go_wp2_with fail;refine (vU (HS.out.keep x4)).mono ?_;rintro e w1 ⟨rfl,x3⟩;have D:=aG x4 x3;have x5:=bP.keep x3;have Z:=D.size;clear x0 x1 x2 bP;obtain⟨x0,x1,x2⟩:=x5.aR;cases hp:cP t 4
 ·have A:Hid (dK t K=none):=DA hp;go_wp2_with fail;refine jO (by simp[results,iM,go_sem];try rfl) rfl ?_;exact⟨_,by rw[A.out];rfl,by rw[A.out];exact cW (lT w1 rfl) Z,aH D _⟩
 have HP:=(show Hid (cP t 4=true) from hp)
 by_cases h2:K.length=2
 ·have ik:((K.length:Int)==2)=true:=by simp;omega
  have w9:(K.length:Int)=2:=by omega
  have v3:=(show Hid (K.length=2) from h2);clear h2;go_wp2_with fail
  go_loopw [6] (fun i wr=>∃k:Nat,k<=K.length/\i=.int .i64 k/\(K.take k).all bH=true/\oW w1.heap.size w1 wr) (fun i _=>K.length-(intOf i).toNat)
  case atStart=>exact⟨0,by omega,rfl,by simp,AP _ _⟩
  case round=>
   obtain⟨k,a0,rfl,S,hb⟩:=hrel;have Y:=(show Hid ((K.take k).all bH=true) from S);have I:=aG D hb;have z4:=I.size;clear S x0 x1 x2
   by_cases z9:k<K.length
   ·obtain⟨l,hl⟩:∃l,K[k]?=some l:=⟨_,tK z9⟩;obtain⟨a',w7,e',-,-,-,L⟩:=(HI.out.keep I).open;cases e';obtain⟨g,off,ad,cp,rfl,hg,c0,hR⟩:=L k l hl;have z0:((k:Int)<(K.length:Int)):=by omega
    have HL:=(show Hid (K[k]?=some l) from hl);clear L hl;go_wp2_with fail;refine (sB _ l wr hR).mono ?_;rintro e w3 ⟨rfl,v2⟩;have R:=aG hb v2;cases ho:bH l
    ·have A:Hid (dK t K=none):=by
      refine DE ?_;rw[tN];exact⟨l,pU HL.out,by simp[ho]⟩
     have Q:=aG D R;have z7:=Q.size;go_wp2_with fail;refine jO (by simp[results,iM,go_sem];try rfl) rfl ?_;exact⟨_,by rw[A.out];rfl,by rw[A.out];exact cW (lT w3 rfl) z7,aH Q _⟩
    ·have A:Hid ((K.take (k+1)).all bH=true):=by
      show _=_
      rw[fK HL.out,xV,Y.out];simp[ho]
     go_wp2_with fail;go_roundw
     case rel=>exact⟨k+1,by omega,by go_num,A.out,R⟩
     case measure=>simp[intOf];omega
   ·obtain rfl:k=K.length:=by omega
    rw[xU]at Y;have z0:¬((K.length:Int)<(K.length:Int)):=by omega
    obtain⟨O,lb,T⟩:=rJ v3.out;have G:bH O=true/\bH lb=true:=by have:=Y.out;rw[T]at this;simpa using this
    have A:Hid (dK t K=cU O lb t):=by show _=_;rw[T];exact DF HP.out G.1 G.2
    have HM:=(show Hid _ from NK (vY G.1) (vY G.2) 4 t HP.out (HF.out O lb T HP.out G.1 G.2) (HS.out.keep I) (by rw[<- T];exact HI.out.keep I));have v4:=x5.keep hb;obtain⟨y0,y1,y2⟩:=v4.aR;clear HF T G Y;go_wp2_with fail;refine C5 HM.out ?_;rintro e w5 ⟨z8,v1⟩;have J:=aG I v1;have z5:=J.size;clear HM
    rcases z8 with⟨o5,r5,H,rfl,M⟩|⟨H,z1,z2,z3,rfl⟩
    ·have O5:=(show Hid (aC w5 w.heap.size o5 r5) from cW M z4);have U:=(show Hid (cU O lb t=some r5) from H);clear M H;go_wp2_with fail;refine jO (v:= .tuple #[o5,.bool true]) (by simp[results,iM,go_sem];try rfl) rfl ?_;exact⟨_,by rw[A.out,U.out];rfl,by rw[A.out,U.out];exact O5.out,J⟩
    ·have U:=(show Hid (cU O lb t=none) from H);clear H;go_wp2_with fail;refine jO (by simp[results,iM,go_sem];try rfl) rfl ?_;exact⟨_,by rw[A.out,U.out];rfl,by rw[A.out,U.out];exact cW (lT w5 rfl) z5,aH J _⟩
 ·have ik:((K.length:Int)==2)=false:=by simp;omega
  have A:Hid (dK t K=none):=DB h2;go_wp2_with fail;refine jO (by simp[results,iM,go_sem];try rfl) rfl ?_;exact⟨_,by rw[A.out];rfl,by rw[A.out];exact cW (lT w1 rfl) Z,aH D _⟩
theorem tU {t:PT}{K:List (List Rw)}{r:List Rw}(h:dK t K=some r):bH r=true:=by
 obtain⟨a,b,_,_,_,_,hp⟩:=nH h;exact lU hp
theorem pI {t:PT}{K:List (List Rw)}{r:List Rw}(h:dK t K=some r):r.length<=400:=i6 (jA (tU h))
theorem Eu (A:nX){t:PT}{K:List (List Rw)}{r:List Rw}(hf:dK t K=some r)(g:t.sm)(hs:dN B w t s)(hi:eS w iv K)(hg:w.cell? ⟨0,0,none⟩=some (gJ A)):
  mO fM 36 #[pl t.k t.n s,iv] w fun e a=>∃o:nA,e=.returned (.tuple #[o,.bool true])/\Rs a o r/\oW w.heap.size w a:=by
 refine (sV A g hs hi hg (fun _ _ _ _ _ _=>trivial)).mono ?_;rintro e w1 ⟨o,rfl,own,D⟩;rw[hf]at own ⊢;exact⟨o,rfl,aC.rs own (by have:=pI hf;simp;omega),D⟩
theorem GS (A:nX){t:PT}{K:List (List Rw)}(hf:dK t K=none)(g:t.sm)(hs:dN B w t s)(hi:eS w iv K)(hg:w.cell? ⟨0,0,none⟩=some (gJ A)):
  mO fM 36 #[pl t.k t.n s,iv] w fun e a=>∃o:nA,e=.returned (.tuple #[o,.bool false])/\Rs a o []/\oW w.heap.size w a:=by
 refine (sV A g hs hi hg (fun _ _ _ _ _ _=>trivial)).mono ?_;rintro e w1 ⟨o,rfl,own,D⟩;rw[hf]at own ⊢;exact⟨o,rfl,aC.rs own (by simp),D⟩
theorem Ft {t:PT}{K:List (List Rw)}{r:List Rw}(hf:dK t K=some r)(hs:dN B w t s)(hi:eS w iv K):
  mO fM 69 #[pl t.k t.n s,iv] w fun e a=>∃o:nA,e=.returned (.tuple #[o,.bool true])/\Rs a o r/\oW w.heap.size w a:=by
 refine (p7 hs hi (fun _ _ _ _ _ _=>trivial)).mono ?_;rintro e w1 ⟨o,rfl,own,g⟩;rw[hf]at own ⊢;exact⟨o,rfl,aC.rs own (by have:=pI hf;simp;omega),g⟩
theorem Gy {t:PT}{K:List (List Rw)}(hf:dK t K=none)(hs:dN B w t s)(hi:eS w iv K):
  mO fM 69 #[pl t.k t.n s,iv] w fun e a=>∃o:nA,e=.returned (.tuple #[o,.bool false])/\Rs a o []/\oW w.heap.size w a:=by
 refine (p7 hs hi (fun _ _ _ _ _ _=>trivial)).mono ?_;rintro e w1 ⟨o,rfl,own,g⟩;rw[hf]at own ⊢;exact⟨o,rfl,aC.rs own (by simp),g⟩
end Go.Proofs.YtbdpcngcbnoioaaGreatDoor
