import Derived.Test.YtbdpcngcbnoioaaGreatDoorGpm
import Derived.Test.YtbdpcngcbnoioaaGreatDoorGf2
import Derived.Test.YtbdpcngcbnoioaaGreatDoorGe2
set_option maxRecDepth 100000
set_option maxHeartbeats 32000000
namespace Go.Proofs.YtbdpcngcbnoioaaGreatDoor
open Go.RowKit Go.Shelf
open Go.Proofs.Tryz renaming prog->fD,results137->fH,results100->fV,func100->gY,ntmps100->gZ,results99->iC,results69->jU,results170->kR,func30->kX
open Go renaming bodyPost_ret->lI,Calls->lY,Value->mF,rounds_succ->mJ,World->nU,Addr->oJ,wp_loop_rounds->oO
open Go.RowKit renaming Below->qA
open _root_.List renaming mem_of_getElem?->rN,getElem?_append_right->sE,getElem?_eq_some_iff->sG,getElem?_append_left->sH,getElem?_eq_getElem->sI,getElem?_of_mem->wH,length_append->wR,all_eq_false->AT,take_length->B3,all_append->BK
open Go.RowKit.Below renaming refl->E0
open Go.Proofs renaming enters_of->EJ
open Go.Calls renaming mono->Ga
variable {B:Nat}{iv kv s:mF}{n:Int}{p:Nat->Prop}{w:nU}
theorem J8 (Q off x1:Nat)(O N:mF)(a D:List Rw)(w:nU)(c0:w.cell? ⟨Q,off,none⟩=some O)(c1:w.cell? ⟨Q,off+1,none⟩=some N)(h1:Rs w O a)(h2:Rs w N D)(hl:a.length+D.length<=2000000):
  lY fD 88 #[.slice (some ⟨Q,off,none⟩) 2 x1] w fun e w'=>∃o:mF,e=.returned o/\aD w' w.heap.size o (a++D)/\qA w.heap.size w w':=by
 have H1:Hid (Rs w O a):=h1;have H2:Hid (Rs w N D):=h2;obtain⟨a1,y5,rfl,_,_,_,_⟩:=h1;obtain⟨a2,y4,rfl,_,_,_,_⟩:=h2;have U:=(show Hid _ from c0);have T:=(show Hid _ from c1);go_enter Tryz.func88,Tryz.ntmps88;generalize J:a.length=n1 at*;generalize I:D.length=n2 at*;have q1:(0:Int)<=(n1:Int):=by omega
 have q2:(n1:Int)<=2000000:=by omega
 have q3:(0:Int)<=(n1:Int)+(n2:Int):=by omega
 have q4:(n1:Int)+(n2:Int)<=2000000:=by omega
 have q5:¬((n1:Int)<0):=by omega
 have q6:¬((n1:Int)+(n2:Int)<0):=by omega
 have E1:Hid (a.length=n1):=J;have E2:Hid (D.length=n2):=I;clear J I;go_wp2_with fail;refine oO 3 ?_;rw[mJ];go_wp2_with fail;rw[mJ];go_wp2_with fail;rw[mJ];go_wp2_with fail;refine (DQ (n:=n1+n2) (by omega) (by omega) _).mono ?_;rintro e w1 ⟨o1,rfl,H,A⟩;have R1:=H1.out.keep A;have d0:=cB A U.out;have d1:=cB A T.out;have y9:=A.size;have S:Hid (aD w1 w.heap.size o1 []):=H;clear H H1 c0 c1;go_wp2_with fail;refine oO 3 ?_;rw[mJ]
 go_wp2_with (at_builtin;refine kZ _ rfl _ _ rfl w.heap.size _ [] rfl S.out _ a rfl R1 (by have:=E1.out;simp;omega) (by omega) ?_;intro v3 Z G M)
 have g:qA w.heap.size w Z:=Below.aO A M (by omega) (oB S.out);have y8:=g.size;have R2:=H2.out.keep g;have R:Hid (aD Z w.heap.size v3 a):=by show aD _ _ _ _;simpa using G
 have f0:=cB g U.out;have f1:=cB g T.out;clear G M d0 d1 R1 S A H2 U T;rw[mJ]
 go_wp2_with (at_builtin;refine kZ _ rfl _ _ rfl w.heap.size _ a rfl R.out _ D rfl R2 (by have:=E1.out;have:=E2.out;omega) (by omega) ?_;intro v5 Y F L)
 have x0:qA w.heap.size w Y:=Below.aO g L (by omega) (oB R.out);have O5:Hid (aD Y w.heap.size v5 (a++D)):=F;clear F L f0 f1 R2 R g;rw[mJ];go_wp2_with fail
 go_returns
 exact⟨_,rfl,O5.out,x0⟩
structure OF (how:Int)(fn:Nat):Prop where
 of:∀W,lY fD 171 #[.int .i64 how] W fun e w'=>e=.returned (.tuple #[.func (.func fn) #[] #[],.bool true])/\qA W.heap.size W w'
 eg:∀args w,(callFunc fn args).run fD w=.ok (.enter fn args) w
 way:∀(K V:Int)(W:nU),0<=K->K<=3->0<=V->V<=99->lY fD fn #[.agg #[.int .i64 K,.int .i64 V]] W fun e w'=>e=.returned (.tuple #[.agg #[.int .i64 (cR how (K,V)).1,.int .i64 (cR how (K,V)).2],.bool (eR how (K,V))])/\qA W.heap.size W w'
theorem Nq {a:Int}(A:1<=a/\a<=7):∃g,OF a g:=by
 obtain rfl|rfl|rfl|rfl|rfl|rfl|rfl:a=1\/a=2\/a=3\/a=4\/a=5\/a=6\/a=7:=by omega
 ·exact⟨215,Lu,EJ Tryz.func215 (by kernel_rfl) rfl,fun K V W=>L7 K V W⟩
 ·exact⟨216,M4,EJ Tryz.func216 (by kernel_rfl) rfl,fun K V W=>LC K V W⟩
 ·exact⟨217,Mo,EJ Tryz.func217 (by kernel_rfl) rfl,fun K V W=>Kg K V W⟩
 ·exact⟨218,N1,EJ Tryz.func218 (by kernel_rfl) rfl,fun K V W=>KZ K V W⟩
 ·exact⟨219,Lo,EJ Tryz.func219 (by kernel_rfl) rfl,fun K V W=>Kb K V W⟩
 ·exact⟨220,Mc,EJ Tryz.func220 (by kernel_rfl) rfl,fun K V W=>KU K V W⟩
 ·exact⟨221,M8,EJ Tryz.func221 (by kernel_rfl) rfl,fun K V W=>K8 K V W⟩
theorem F1 {a b:List Rw}(hn:n=0\/n=1)(hi:eG w iv [a,b])(T:a.length<=400)(S:b.length<=400)(J:∃x m c,kv=.slice x m c):
  lY fD 100 #[.iface 172 (.int .i64 n),iv,kv] w fun e I=>∃o:mF,e=.returned (.tuple #[o,.nilIface])/\aD I w.heap.size o (if n=0 then a else b)/\qA w.heap.size w I:=by
 obtain⟨g,off,Y,ad,cp,Z,U,rfl,hg,c0,c1,Q,O,N,M⟩:=hi.two;obtain⟨x,m,c,rfl⟩:=J;have R:=Oo n
 rcases hn with rfl|rfl
 ·have D:Hid (aD w w.heap.size (.slice none 0 0) []):=oN _ _ _ _ _;go_enter gY,gZ
  go_wp2_with (at_builtin;refine kZ _ rfl _ _ rfl w.heap.size _ [] rfl D.out _ a rfl Q (by simp;omega) (by omega) ?_;intro L H A F)
  have G:qA w.heap.size w H:=Below.aO (E0 _ _) F (by omega) (oB D.out);refine lI (v:= .tuple #[_,.nilIface]) (by simp[results,fV,go_sem];try rfl) rfl ?_;exact⟨_,rfl,by simpa using A,G⟩
 ·have D:Hid (aD w w.heap.size (.slice none 0 0) []):=oN _ _ _ _ _;go_enter gY,gZ
  go_wp2_with (at_builtin;refine kZ _ rfl _ _ rfl w.heap.size _ [] rfl D.out _ b rfl O (by simp;omega) (by omega) ?_;intro L H A F)
  have G:qA w.heap.size w H:=Below.aO (E0 _ _) F (by omega) (oB D.out);refine lI (v:= .tuple #[_,.nilIface]) (by simp[results,fV,go_sem];try rfl) rfl ?_;exact⟨_,rfl,by simpa using A,G⟩
theorem Ck {x:List Rw}(hn:1<=n/\n<=7)(hx:aR x=true)(hi:∃x m c,iv=.slice x m c)(U:eG w kv [x]):
  lY fD 100 #[.iface 173 (.int .i64 n),iv,kv] w fun e J=>∃o:mF,e=.returned (.tuple #[o,.nilIface])/\aD J w.heap.size o (aP aQ (cN n x))/\qA w.heap.size w J:=by
 obtain⟨fn,H⟩:=Nq hn;have G:=(show Hid _ from H.of);have I:=(show Hid _ from fun v W Z=>Eb fn n v x W Z hx H.eg H.way);have x8:=pS n x;have x9:=CN n x;have x6:=fP hx;have x7:=mY hx;have O:Hid (∀r∈cN n x,spOk r.1):=KM hx;obtain⟨g,off,y0,ad,cp,rfl,hg,N,R0,Y,T⟩:=U.one;obtain⟨i1,i2,i3,rfl⟩:=hi;have C0:=(show Hid _ from N);have x5:=Og n;have x4:=OU n;clear H N;go_enter gY,gZ;go_wp2_with fail;refine (G.out _).mono ?_;rintro e w1 ⟨rfl,F⟩;have d0:=cB F C0.out;go_wp2_with fail;refine (I.out _ w1 (R0.keep F)).mono ?_;rintro e R ⟨o2,rfl,A,M⟩;have R2:=aD.rs A (by omega);have D:=aH F M;clear A I G;go_wp2_with fail;refine (pR _ _ _ R2 (by omega) (by omega) O.out).mono ?_;rintro e Q ⟨S,rfl,a,L⟩;have O3:=(show Hid (aD Q R.heap.size S (aP aQ (cN n x))) from a);have hs:=D.size;clear a;go_wp2_with fail;refine lI (v:= .tuple #[_,.nilIface]) (by simp[results,fV,go_sem];try rfl) rfl ?_;exact⟨_,rfl,bQ O3.out hs,aH D L⟩
theorem Cu {x y:List Rw}(hx:aR x=true)(F:aR y=true)(hi:∃x m c,iv=.slice x m c)(Z:eG w kv [x,y]):
  lY fD 100 #[.iface 175 (.int .i64 n),iv,kv] w fun e G=>∃o:mF,e=.returned (.tuple #[o,.nilIface])/\aD G w.heap.size o (aP aQ (x++y))/\qA w.heap.size w G:=by
 have x5:=fP hx;have U:=fP F;have x6:=A4 hx F;have O:Hid (∀r∈x++y,spOk r.1):=G9 hx F;have H:(x++y).length<=1000000:=by rw[wR];omega
 obtain⟨g,off,J,ad,cp,x8,x7,rfl,hg,L,c1,N,M,h9,Y⟩:=Z.two;obtain⟨i1,i2,i3,rfl⟩:=hi;have Q:=(show Hid _ from J8 g off J _ _ x y w L c1 N M (by omega));have x4:=Oc n;have x3:=OY n;have x2:=Od n;clear L c1 N M;go_enter gY,gZ;go_wp2_with fail;refine Ga Q.out ?_;rintro e S ⟨o2,rfl,A,D⟩;have R2:=aD.rs A (by omega);clear A Q;go_wp2_with fail;refine (pR _ _ _ R2 H (by omega) O.out).mono ?_;rintro e R ⟨T,rfl,a,I⟩;have O3:=(show Hid (aD R S.heap.size T (aP aQ (x++y))) from a);have hs:=D.size;clear a;go_wp2_with fail;refine lI (v:= .tuple #[_,.nilIface]) (by simp[results,fV,go_sem];try rfl) rfl ?_;exact⟨_,rfl,bQ O3.out hs,aH D I⟩
theorem Cx {x:List Rw}(hi:∃x m c,iv=.slice x m c)(I:eG w kv [x]):
  lY fD 100 #[.iface 177 (.int .i64 n),iv,kv] w fun e A=>∃o:mF,e=.returned (.tuple #[o,.nilIface])/\aD A w.heap.size o (dA x)/\qA w.heap.size w A:=by
 obtain⟨g,off,S,ad,Z,rfl,hg,c0,L,J,H⟩:=I.one;obtain⟨Y,U,T,rfl⟩:=hi;have R:=Ou n;have Q:=Oi n;have O:=Oq n;have N:=OX n;go_enter gY,gZ;go_wp2_with fail;refine (vV _ x w L).mono ?_;rintro e F ⟨G,rfl,a,D⟩;have M:=(show Hid (aD F w.heap.size G (dA x)) from a);clear a;go_wp2_with fail;refine lI (v:= .tuple #[_,.nilIface]) (by simp[results,fV,go_sem];try rfl) rfl ?_;exact⟨_,rfl,M.out,D⟩
theorem Cr {x y:List Rw}(hx:aR x=true)(M:aR y=true)(hi:∃x m c,iv=.slice x m c)(hk:eG w kv [x,y]):
  lY fD 100 #[.iface 178 (.int .i64 n),iv,kv] w fun e S=>∃o:mF,e=.returned (.tuple #[o,.nilIface])/\aD S w.heap.size o (aP aQ (d8 x y))/\qA w.heap.size w S:=by
 obtain⟨I,T⟩:=C3 hx M;have x0:Hid (∀r∈d8 x y,spOk r.1):=Kd hx M;obtain⟨g,off,y4,ad,N,H,G,rfl,hg,c0,c1,R0,Z,x5,x3⟩:=hk.two;obtain⟨i1,i2,i3,rfl⟩:=hi;have O:Hid (∀W,qA w.heap.size w W->W.cell? ⟨g,off,none⟩=some (.slice ad x.length N)/\W.cell? ⟨g,off+1,none⟩=some (.slice H y.length G)):=fun W F=>⟨cB F c0,cB F c1⟩;have HR:Hid (∀W,qA w.heap.size w W->Rs W (.slice ad x.length N) x/\Rs W (.slice H y.length G) y):=fun W F=>⟨R0.keep F,Z.keep F⟩;have a:qA w.heap.size w w.drew:=(E0 _ _).drew;have y3:=Oe n;have y2:=OQ n;have y1:=Oh n;have y0:=Ok n;have x9:=Ot n;clear R0 Z;go_enter gY,gZ;go_wp2_with fail
 go_region_held3 (fun W=>W.cell? ⟨g,off,none⟩=some (.slice ad x.length N)/\W.cell? ⟨g,off+1,none⟩=some (.slice H y.length G))
  (first|exact O.out _ a|exact O.out _ D|exact O.out _ J)
  (first
   | (go_at_call 173;with_reducible refine (Da _ _ x y _ (HR.out _ a).1 (HR.out _ a).2 hx M).mono ?_;rintro e R ⟨o2,rfl,L,Y⟩;have D:qA w.heap.size w R:=aH a Y;have R2:=aD.rs L (Nat.le_trans I (by decide)))
   | (go_at_call 155;with_reducible refine (pR _ _ _ R2 (Nat.le_trans I (by decide)) T x0.out).mono ?_;rintro e Q ⟨o3,rfl,A,U⟩;have J:qA w.heap.size w Q:=aH D U))
 all_goals
  have hs:=D.size;have O3:=(show Hid (aD Q R.heap.size o3 (aP aQ (d8 x y))) from A);clear A;go_wp2_with fail;refine lI (v:= .tuple #[_,.nilIface]) (by simp[results,fV,go_sem];try rfl) rfl ?_;exact⟨_,rfl,bQ O3.out hs,J⟩
theorem EQ {x:List Rw}(hn:cH n 1 3=true)(hx:aR x=true)(hi:∃x m c,iv=.slice x m c)(U:eG w kv [x]):
  lY fD 100 #[.iface 180 (.int .i64 n),iv,kv] w fun e J=>∃o:mF,e=.returned (.tuple #[o,.nilIface])/\aD J w.heap.size o (aP aQ (fT n x))/\qA w.heap.size w J:=by
 obtain⟨fn,H⟩:=NQ hn;have G:=(show Hid _ from H.of);have I:=(show Hid _ from fun v W Z=>FP H v x W Z hx);have hfl:=tL n x;have x9:=CM n x;have O:Hid (∀r∈fT n x,spOk r.1):=Kr;obtain⟨g,off,y0,ad,cp,rfl,hg,N,R0,Y,T⟩:=U.one;obtain⟨i1,i2,i3,rfl⟩:=hi;have C0:=(show Hid _ from N);have x8:=Ob n;have x7:=Oa n;have x6:=On n;have x5:=Ow n;have x4:=Om n;have x3:=Ox n;clear H N;go_enter gY,gZ;go_wp2_with fail;refine (G.out _).mono ?_;rintro e w1 ⟨rfl,F⟩;have d0:=cB F C0.out;go_wp2_with fail;refine (I.out _ w1 (R0.keep F)).mono ?_;rintro e R ⟨o2,rfl,A,M⟩;have R2:=aD.rs A (by omega);have D:=aH F M;clear A I G;go_wp2_with fail;refine (pR _ _ _ R2 (by omega) (by omega) O.out).mono ?_;rintro e Q ⟨S,rfl,a,L⟩;have O3:=(show Hid (aD Q R.heap.size S (aP aQ (fT n x))) from a);have hs:=D.size;clear a;go_wp2_with fail;refine lI (v:= .tuple #[_,.nilIface]) (by simp[results,fV,go_sem];try rfl) rfl ?_;exact⟨_,rfl,bQ O3.out hs,aH D L⟩
theorem EH {a b:List Rw}{t:PT}{K:List (List Rw)}(g:∀l∈K,aZ l=true)(D:a.length<=400)(A:b.length<=400):(jB a b t K).length<=1000000:=by
 have hg:∀i,aR (K.getD i [])=true:=fun i=>by
  rw[List.getD_eq_getElem?_getD];cases h:K[i]? with
  | none=>exact MY
  | some l=>exact j7 (g l (rN h))
 have h0:=hg 0;have h1:=hg 1;unfold jB
 split
 ·split<;>omega
 ·generalize K.getD 0 []=x at*;generalize K.getD 1 []=y at*;have G:=fP h0;have F:=fP h1;unfold La
  split
  ·have:=i6 aQ (cN t.n x);have:=pS t.n x;omega
  split
  ·have:=i6 aQ (x++y);rw[wR]at this;omega
  split
  ·have:=fP (j7 (wW x));omega
  split
  ·have:=i6 aQ (d8 x y);have:=(C3 h0 h1).1;omega
  ·have:=i6 aQ (fT t.n x);have:=tL t.n x;omega
theorem Ed {a b:List Rw}{t:PT}{K:List (List Rw)}(T:dT t=true)(hl:K.length=t.len)(J:∀l∈K,aZ l=true)(N:a.length<=400)(L:b.length<=400)(hi:eG w iv [a,b])(H:eG w kv K):
  lY fD 100 #[eS t,iv,kv] w fun e G=>∃o:mF,e=.returned (.tuple #[o,.nilIface])/\aD G w.heap.size o (jB a b t K)/\(jB a b t K).length<=1000000/\qA w.heap.size w G:=by
 have O:=EH (t:=t) J N L;obtain⟨R,g,F,D⟩:=qK T;have key:lY fD 100 #[eS t,iv,kv] w fun e G=>∃o:mF,e=.returned (.tuple #[o,.nilIface])/\aD G w.heap.size o (jB a b t K)/\qA w.heap.size w G:=by
  obtain⟨ia,Z,A⟩:=hi.sl;obtain⟨Y,U,S⟩:=H.sl;cases t with
  | n0 k n=>
   obtain rfl:=Hy T;simp[eN,eP,PT.k,PT.n]at F D;exact F1 (n:=n) (by omega) hi N L ⟨_,_,_,S⟩
  | n1 k n x=>
   obtain⟨l,rfl⟩:∃l,K=[l]:=by
    match K,hl with
    | [l],_=>exact⟨l,rfl⟩
   have I:=J l (by simp);simp only[PT.k,PT.n,PT.len]at R g F D;have Q:k=1\/k=2\/k=3\/k=4\/k=5\/k=6:=by omega
   rcases Q with rfl|rfl|rfl|rfl|rfl|rfl
   ·exact absurd g (by decide)
   ·exact Ck (by simp[eN,eP]at F D;exact⟨F,D⟩) (j7 I) ⟨_,_,_,A⟩ H
   ·exact absurd g (by decide)
   ·exact Cx ⟨_,_,_,A⟩ H
   ·exact absurd g (by decide)
   ·exact EQ (by simp[eN,eP]at F D;simp[cH];exact⟨F,D⟩) (j7 I) ⟨_,_,_,A⟩ H
  | n2 k n x y=>
   obtain⟨l,m,rfl⟩:∃l m,K=[l,m]:=by
    match K,hl with
    | [l,m],_=>exact⟨l,m,rfl⟩
   have I:=J l (by simp);have M:=J m (by simp);simp only[PT.k,PT.n,PT.len]at R g F D;have Q:k=1\/k=2\/k=3\/k=4\/k=5\/k=6:=by omega
   rcases Q with rfl|rfl|rfl|rfl|rfl|rfl
   ·exact absurd g (by decide)
   ·exact absurd g (by decide)
   ·exact Cu (j7 I) (j7 M) ⟨_,_,_,A⟩ H
   ·exact absurd g (by decide)
   ·exact Cr (j7 I) (j7 M) ⟨_,_,_,A⟩ H
   ·exact absurd g (by decide)
 refine key.mono ?_;rintro e G ⟨o,rfl,h1,h2⟩;exact⟨o,rfl,h1,O,h2⟩
theorem H0 (v:mF)(K:List (List Rw))(w:nU)(h:eG w v K):
  lY fD 169 #[v,.func (.func 30) #[] #[]] w fun e N=>e=.returned (.bool (K.all aZ))/\qA w.heap.size w N:=by
 have eg:=EJ (P:=fD) kX (by kernel_rfl) rfl;have T:=(show Hid (eG w v K) from h);obtain⟨a,Y,rfl,Z,hm,hn,-⟩:=h.open;unfold maxLen at hm;clear h;go_enter Tryz.func169,Tryz.ntmps169;go_wp2_with fail
 go_loopw [9] (fun i wr=>∃k:Nat,k<=K.length/\i=.int .i64 k/\(K.take k).all aZ=true/\qA w.heap.size w wr) (fun i _=>K.length-(intOf i).toNat)
 case atStart=>exact⟨0,by omega,rfl,by simp,E0 _ _⟩
 case round=>
  obtain⟨k,U,rfl,D,G⟩:=hrel;have I:=(show Hid ((K.take k).all aZ=true) from D);clear D
  by_cases J:k<K.length
  ·obtain⟨l,hl⟩:∃l,K[k]?=some l:=⟨_,sI J⟩;obtain⟨a',S,R,-,-,-,A⟩:=(T.out.keep G).open;cases R;obtain⟨g,off,ad,cp,rfl,hg,c0,Q⟩:=A k l hl;have O:((k:Int)<(K.length:Int)):=by omega
   have M:=(show Hid (K[k]?=some l) from hl);clear A hl;go_wp2_with fail;refine (sY _ l wr Q).mono ?_;rintro e w1 ⟨rfl,L⟩;have F:=aH G L;cases ho:aZ l
   ·have H:Hid (K.all aZ=false):=by
     show _=_
     rw[AT];exact⟨l,rN M.out,by simp[ho]⟩
    go_wp2_with fail;go_ret;exact⟨by rw[H.out];rfl,F⟩
   ·have H:Hid ((K.take (k+1)).all aZ=true):=by
     show _=_
     rw[gL M.out,BK,I.out];simp[ho]
    go_wp2_with fail;go_roundw
    case rel=>exact⟨k+1,by omega,by go_num,H.out,F⟩
    case measure=>simp[intOf];omega
  ·obtain rfl:k=K.length:=by omega
   rw[B3]at I;have O:¬((K.length:Int)<(K.length:Int)):=by omega
   go_wp2_with fail;go_ret;exact⟨by rw[I.out];rfl,G⟩
def GR (ea:oJ)(a b:List Rw)(t:PT)(w:nU)(e:Ending)(w':nU):Prop:=
 ((∃o r,cW a b t=some r/\e=.returned (.tuple #[o,.nilIface])/\aD w' w.heap.size o r)\/(cW a b t=none/\e=.returned (.tuple #[.slice none 0 0,iB ea])))/\qA w.heap.size w w'
theorem Mh {t:PT}{a:Option oJ}{n c:Nat}(h:jY p w t (.slice a n c)){i:Nat}(hi:i<t.len):
  ∃g off sx,a=some ⟨g,off,none⟩/\g<w.heap.size/\w.cell? ⟨g,off+i*2,none⟩=some (eS (t.ab i))/\w.cell? ⟨g,off+i*2+1,none⟩=some sx/\jY p w (t.ab i) sx/\(∃b m d,sx=.slice b m d):=by
 cases t with
 | n0 k n=>simp[PT.len]at hi
 | n1 k n x=>
  obtain⟨g,c,sx,e,_,h1,h2,h3⟩:=h;obtain rfl:i=0:=by simp[PT.len]at hi;exact hi
  cases e;obtain⟨b,d,A⟩:=h3.sl;exact⟨g,0,sx,rfl,lC h1,by simpa[PT.ab]using h1,by simpa using h2,h3,_,_,_,A⟩
 | n2 k n x y=>
  obtain⟨g,c,sx,sy,e,_,h1,h2,h3,h4,h5,h6⟩:=h;cases e;cases i with
  | zero=>
   obtain⟨b,d,A⟩:=h5.sl;exact⟨g,0,sx,rfl,lC h1,by simpa[PT.ab]using h1,by simpa using h2,h5,_,_,_,A⟩
  | succ i=>
   obtain rfl:i=0:=by simp[PT.len]at hi;omega
   obtain⟨b,d,A⟩:=h6.sl;exact⟨g,0,sy,rfl,lC h1,by simpa[PT.ab]using h3,by simpa using h4,h6,_,_,_,A⟩
theorem tH {a:nU}(A:qA w.heap.size w a){t:PT}(h:jY p w t s):jY p a t s:=h.move fun g hg hl=>⟨hg,A.block g hl⟩
theorem DT (ea:oJ){a b:List Rw}(v6:a.length<=400)(v4:b.length<=400){t:PT}(hh:dT t=true)(z0:nZ a b t)(hs:jY p w t s)(hi:eG w iv [a,b])(hg:w.cell? ⟨0,0,none⟩=some (iB ea))
  (x2:∀i,i<t.len->∀(W:nU)(s':mF),jY p W (t.ab i) s'->eG W iv [a,b]->W.cell? ⟨0,0,none⟩=some (iB ea)->lY fD 170 #[.agg #[eS (t.ab i),s'],iv,.func (.func 30) #[] #[],.func (.func 100) #[] #[]] W (GR ea a b (t.ab i) W)):
  lY fD 170 #[.agg #[eS t,s],iv,.func (.func 30) #[] #[],.func (.func 100) #[] #[]] w (GR ea a b t w):=by
 have eg:=EJ (P:=fD) kX (by kernel_rfl) rfl;have f6:=EJ (P:=fD) gY (by kernel_rfl) rfl;have HR:=(show Hid _ from x2);have HH:=(show Hid (dT t=true) from hh);have HF:=(show Hid (nZ a b t) from z0);have z2:qA w.heap.size w (w.alloc (.cells #[eS t,s] 161)):=aG (E0 _ _) _;have M:Bk (w.alloc (.cells #[eS t,s] 161)) w.heap.size #[eS t,s] 161:=Bk.new _ _ rfl;have w6:=(show Hid (jY p w t s) from hs);have z4:=(show Hid (eG w iv [a,b]) from hi);obtain⟨sa,sc,rfl⟩:=hs.sl;obtain⟨ig,b5,b8,e6,e5,b9,b7,rfl,-⟩:=hi.two;have e9:=PT.bp t;obtain⟨x0,x1,_,_⟩:=M.two;clear hs hi x2 hh z0;go_enter Tryz.func170,Tryz.ntmps170;go_wp2_with fail;generalize w.alloc (.cells #[eS t,.slice sa t.len sc] 161)=W0 at*;clear x0 x1
 go_loopw [10,20] (fun o i wr=>∃(k:Nat)(vs:List mF)(K:List (List Rw)),k<=t.len/\i=.int .i64 k/\K.length=k/\dN wr (w.heap.size+1) o vs/\gC wr (w.heap.size+1) vs K/\(∀j l,K[j]?=some l->cW a b (t.ab j)=some l)/\Bk wr w.heap.size #[eS t,.slice sa t.len sc] 161/\qA w.heap.size w wr) (fun _ i _=>t.len-(intOf i).toNat)
 case atStart=>exact⟨0,[],[],by omega,rfl,rfl,oN _ _ _ _ _,gC.nil _ _,fun j l h=>by simp at h,M,z2⟩
 case round=>
  clear z2 M;obtain⟨k,vs,K,f3,rfl,G,x3,x6,y7,M,Z⟩:=hrel;have HO:=(show Hid (dN wr (w.heap.size+1) u10 vs) from x3);have HE:=(show Hid (gC wr (w.heap.size+1) vs K) from x6);have HP:=(show Hid _ from y7);have HV:Hid (vs.length=k):=by show _=_;rw[x6.1,G]
  have v2:=Z.size;have d0:=M.lt;clear x3 x6 y7
  by_cases x4:k<t.len
  ·have ik:((k:Int)<(t.len:Int)):=by omega
   have y9:=tH Z w6.out;obtain⟨g,off,sx,rfl,f4,c0,c1,x5,b2,m2,d2,rfl⟩:=Mh y9 x4;have bx:=Bk.new (w:=wr) #[eS (t.ab k),.slice b2 m2 d2] 161 rfl;have U:qA wr.heap.size wr (wr.alloc (.cells #[eS (t.ab k),.slice b2 m2 d2] 161)):=aG (E0 _ _) _;have I:=aH Z U;have z5:=(show Hid _ from HR.out k x4 _ _ (tH U x5) (z4.out.keep I) (cB I hg));obtain⟨q0,q1,_,_⟩:=bx.two;clear y9 x5 bx;go_wp2_with fail;refine Ga z5.out ?_;rintro e D ⟨y8,x9⟩;have x8:qA wr.heap.size wr D:=aH U x9;have x7:=aH I x9;have c4:=x8.size;have y6:(wr.alloc (.cells #[eS (t.ab k),.slice b2 m2 d2] 161)).heap.size=wr.heap.size+1:=by simp
   rw[y6]at y8;clear z5 q0 q1 U I x9 c0 c1 y6
   rcases y8 with⟨o7,F,S,rfl,Q⟩|⟨S,rfl⟩
   ·have f0:F.length<=400:=CP S;obtain⟨R,c7,e7,-⟩:=Rs.open (aD.rs Q (by omega));subst e7;have bn:Bk (D.alloc (.cells #[.slice R F.length c7] 28)) D.heap.size #[.slice R F.length c7] 28:=Bk.new _ _ rfl;have Y:qA D.heap.size D (D.alloc (.cells #[.slice R F.length c7] 28)):=aG (E0 _ _) _;have J:=aH x8 Y;have H:=(show Hid (dN (D.alloc (.cells #[.slice R F.length c7] 28)) (w.heap.size+1) u10 vs) from bJ HO.out J);have a3:=(show Hid (gC (D.alloc (.cells #[.slice R F.length c7] 28)) (w.heap.size+1) (vs++[.slice R F.length c7]) (K++[F])) from (HE.out.keep J).snoc (bJ (bQ Q (by omega)) Y) (by omega));have a0:Hid (∀j l,(K++[F])[j]?=some l->cW a b (t.ab j)=some l):=fun j l L=>by
     rcases Nat.lt_or_ge j K.length with h|h
     ·rw[sH h]at L;exact HP.out j l L
     ·rw[sE h]at L;have:j=k:=by
       have:=(sG.1 L).1;simp at this;omega
      subst this;rw[G,Nat.sub_self]at L;cases L;exact S
    have w3:=M.keep J;have a4:=(show Hid _ from aH x7 Y);have v1:(D.alloc (.cells #[.slice R F.length c7] 28)).heap.size=D.heap.size+1:=by simp
    clear Q Y J HO HE HP M
    go_wp2_with (at_builtin;go_must (refine Lb _ rfl _ _ rfl (w.heap.size+1) _ vs rfl H.out _ _ _ _ rfl bn (by have:=HV.out;omega) (by simp;omega) ?_);intro g9 d5 w9 z7 T f2)
    have A:qA w.heap.size w w9:=Below.aO a4.out T (by rw[v1];omega) (fun q e=>by have:=oB H.out q e;omega);have w2:Bk w9 w.heap.size #[eS t,.slice (some ⟨g,off,none⟩) t.len sc] 161:=Bk.aO w3 T (fun q e=>by have:=oB H.out q e;omega);refine⟨⟨k+1,_,_,by omega,by go_num,by simp[G],z7,a3.out.aO H.out T,a0.out,w2,A⟩,?_⟩;simp[intOf];omega
   ·have HX:Hid (cW a b t=none):=Af x4 S;go_wp2_with fail;refine lI (v:= .tuple #[.slice none 0 0,iB ea]) (by simp[results,kR,go_sem];try rfl) rfl ?_;exact⟨.inr ⟨HX.out,rfl⟩,x7⟩
  ·obtain rfl:k=t.len:=by omega
   have ik:¬((t.len:Int)<(t.len:Int)):=by omega
   have z3:Hid (cW a b t=qE (jB a b t K)):=Ei HH.out G HP.out;have LK:=HE.out.ly HO.out (by have:=HV.out;omega);have hK:∀l∈K,aZ l=true:=fun l hl=>by
    obtain⟨j,L⟩:=wH hl;exact pY (HP.out j l L)
   have HM:=(show Hid _ from Ed HH.out G hK v6 v4 (z4.out.keep Z) LK);have f5:=cB Z hg;obtain⟨ka,kc,v8⟩:=LK.sl;subst v8;obtain⟨y0,y1,_,_⟩:=M.two;clear LK HO HE HP hK G;go_wp2_with fail;refine Ga HM.out ?_;rintro e w8 ⟨o8,rfl,N,f1,v5⟩;have z9:=aH Z v5;have R8:=aD.rs N (by omega);obtain⟨a8,c8,e8,-⟩:=Rs.open R8;subst e8;have H:=(show Hid (aD w8 w.heap.size _ _) from bQ N v2);clear N HM y0 y1;generalize jB a b t K=O at*;go_wp2_with fail;refine (sY _ _ w8 R8).mono ?_;rintro e w9 ⟨rfl,z1⟩;have A:=aH z9 z1;cases ho:aZ O
   ·have HX:Hid (cW a b t=none):=by show _=_;rw[z3.out,nH ho]
    have T:=cB A hg;go_wp2_with fail
    go_quiet (fail)
    have c9:=cB (dC A nq) hg;go_wp2_with fail;refine lI (v:= .tuple #[.slice none 0 0,iB ea]) (by simp[results,kR,go_sem];try rfl) rfl ?_;exact⟨.inr ⟨HX.out,rfl⟩,dC A _⟩
   ·have HX:Hid (cW a b t=some O):=by show _=_;rw[z3.out,m7 ho]
    go_wp2_with fail;refine lI (v:= .tuple #[.slice a8 O.length c8,.nilIface]) (by simp[results,kR,go_sem];try rfl) rfl ?_;exact⟨.inl ⟨_,_,HX.out,rfl,bJ H.out z1⟩,A⟩
theorem F6 (A:oJ){a b:List Rw}(H:a.length<=400)(G:b.length<=400):∀(d:Nat)(t:PT){s:mF}{w:nU},d7 t d=true->nZ a b t->jY p w t s->eG w iv [a,b]->w.cell? ⟨0,0,none⟩=some (iB A) ->
  lY fD 170 #[.agg #[eS t,s],iv,.func (.func 30) #[] #[],.func (.func 100) #[] #[]] w (GR A a b t w):=by
 intro d
 induction d with
 | zero=>intro t s w hp;rw[rF]at hp;cases hp
 | succ d ih=>
  intro t s w hp hf hs hi hg;obtain⟨J,I⟩:=sV hp;exact DT A H G J hf hs hi hg fun i g W s' hs' D F=>ih (t.ab i) (I i g) (C5 hf g) hs' D F
theorem DY (ea:oJ){t:PT}{K:List (List Rw)}(Z:t.sm)(hs:cZ B w t s)(hi:eG w iv K)(hg:w.cell? ⟨0,0,none⟩=some (iB ea))(x3:∀a b,K=[a,b]->d7 t 4=true->aZ a=true->aZ b=true->nZ a b t):
  lY fD 99 #[pl t.k t.n s,iv,.func (.func 30) #[] #[],.func (.func 100) #[] #[]] w fun e w'=>∃o:mF,e=.returned (.tuple #[o,.bool (dG t K).isSome])/\aD w' w.heap.size o ((dG t K).getD [])/\qA w.heap.size w w':=by
 have bP:Bk (w.alloc (.cells #[.int .i64 t.k,.int .i64 t.n,s] 25)) w.heap.size #[.int .i64 t.k,.int .i64 t.n,s] 25:=Bk.new _ _ rfl;have J:qA w.heap.size w (w.alloc (.cells #[.int .i64 t.k,.int .i64 t.n,s] 25)):=aG (E0 _ _) _;obtain⟨x0,x1,x2⟩:=bP.aK;have HC:=(show Hid _ from GZ ea 4 t 1 (by omega) (by omega) Z (hs.keep J) (cB J hg));have HI:=(show Hid (eG w iv K) from hi);have HF:=(show Hid _ from x3);obtain⟨a,c,rfl⟩:=hs.sl;obtain⟨ia,ic,rfl⟩:=hi.sl;clear hs Z bP hi x3;go_enter Tryz.func99,Tryz.ntmps99;go_wp2_with fail;refine Ga HC.out ?_;rintro e w1 ⟨N,x4⟩;have Q:=aH J x4;clear HC x0 x1 x2
 rcases N with⟨hp,Y,U,c3,rfl,h9⟩|⟨hp,rfl⟩
 ·have D:=aG Q (.cells #[eS t,.slice Y U c3] 161);have bO:Bk (w1.alloc (.cells #[eS t,.slice Y U c3] 161)) w1.heap.size #[eS t,.slice Y U c3] 161:=Bk.new _ _ rfl;have O:=(show Hid _ from tH (aG (E0 w1.heap.size w1) (.cells #[eS t,.slice Y U c3] 161)) h9);have y5:=cB D hg;have HP:=(show Hid (d7 t 4=true) from hp);clear h9 x4 Q hp J
  by_cases h2:K.length=2
  ·have ik:((K.length:Int)==2)=true:=by simp;omega
   have u0:(K.length:Int)=2:=by omega
   have y7:=(show Hid (K.length=2) from h2);clear h2;go_wp2_with fail;refine (E4 _ _).mono ?_;rintro e w2 ⟨rfl,rfl⟩;go_wp2_with fail;refine (H0 _ K _ (HI.out.keep D)).mono ?_;rintro e w4 ⟨rfl,R⟩;have A:=aH D R;cases I:K.all aZ
   ·have g:Hid (dG t K=none):=CD I;go_wp2_with fail;refine lI (v:= .tuple #[.slice none 0 0,.bool false]) (by simp[results,iC,go_sem];try rfl) rfl ?_;exact⟨_,by rw[g.out];rfl,by rw[g.out];exact oN _ _ _ _ _,A⟩
   ·obtain⟨M,lb,S⟩:=qZ y7.out;have F:aZ M=true/\aZ lb=true:=by rw[S]at I;simpa using I
    have g:Hid (dG t K=cW M lb t):=by show _=_;rw[S];exact CT HP.out F.1 F.2
    have HM:=(show Hid _ from F6 ea (uU F.1) (uU F.2) 4 t HP.out (HF.out M lb S HP.out F.1 F.2) (tH R O.out) (by rw[<- S];exact HI.out.keep A) (cB A hg));have x5:=bO.keep R;obtain⟨y0,y1,_,_⟩:=x5.two;clear O HF S F bO x5;go_wp2_with fail;refine Ga HM.out ?_;rintro e w5 ⟨N,y6⟩;have H:=aH A y6;have y4:=A.size;have u4:=cB H hg;clear HM
    rcases N with⟨o5,r5,G,rfl,L⟩|⟨G,rfl⟩
    ·have O5:=(show Hid (aD w5 w.heap.size o5 r5) from bQ L y4);have T:=(show Hid (cW M lb t=some r5) from G);clear L G;go_wp2_with fail;refine (E4 _ _).mono ?_;rintro e w6 ⟨rfl,rfl⟩;go_wp2_with fail;refine lI (v:= .tuple #[o5,.bool true]) (by simp[results,iC,go_sem];try rfl) rfl ?_;exact⟨_,by rw[g.out,T.out];rfl,by rw[g.out,T.out];exact O5.out,H⟩
    ·have T:=(show Hid (cW M lb t=none) from G);clear G;go_wp2_with fail;refine (Fi _ _).mono ?_;rintro e w6 ⟨rfl,rfl⟩;go_wp2_with fail;refine lI (v:= .tuple #[.slice none 0 0,.bool false]) (by simp[results,iC,go_sem];try rfl) rfl ?_;exact⟨_,by rw[g.out,T.out];rfl,by rw[g.out,T.out];exact oN _ _ _ _ _,H⟩
  ·have ik:((K.length:Int)==2)=false:=by simp;omega
   have g:Hid (dG t K=none):=Cf h2;go_wp2_with fail;refine (E4 _ _).mono ?_;rintro e w2 ⟨rfl,rfl⟩;go_wp2_with fail;refine lI (v:= .tuple #[.slice none 0 0,.bool false]) (by simp[results,iC,go_sem];try rfl) rfl ?_;exact⟨_,by rw[g.out];rfl,by rw[g.out];exact oN _ _ _ _ _,D⟩
 ·have D:=aG Q (.cells #[.nilIface,.slice none 0 0] 161);have y5:=cB D hg;have g:Hid (dG t K=none):=CV hp;go_wp2_with fail;refine (Fi _ _).mono ?_;rintro e w2 ⟨rfl,rfl⟩;go_wp2_with fail;refine lI (v:= .tuple #[.slice none 0 0,.bool false]) (by simp[results,iC,go_sem];try rfl) rfl ?_;exact⟨_,by rw[g.out];rfl,by rw[g.out];exact oN _ _ _ _ _,D⟩
theorem rK (J:oJ){t:PT}{K:List (List Rw)}(D:t.sm)(hs:cZ B w t s)(hi:eG w iv K)(hg:w.cell? ⟨0,0,none⟩=some (iB J))(F:∀a b,K=[a,b]->d7 t 4=true->aZ a=true->aZ b=true->nZ a b t):
  lY fD 36 #[pl t.k t.n s,iv] w fun e G=>∃o:mF,e=.returned (.tuple #[o,.bool (dG t K).isSome])/\aD G w.heap.size o ((dG t K).getD [])/\qA w.heap.size w G:=by
 have L:Bk (w.alloc (.cells #[.int .i64 t.k,.int .i64 t.n,s] 25)) w.heap.size #[.int .i64 t.k,.int .i64 t.n,s] 25:=Bk.new _ _ rfl;have g:qA w.heap.size w (w.alloc (.cells #[.int .i64 t.k,.int .i64 t.n,s] 25)):=aG (E0 _ _) _;obtain⟨Q,O,N⟩:=L.aK;have M:=(show Hid _ from DY J D (hs.keep g) (hi.keep g) (cB g hg) F);obtain⟨a,c,rfl⟩:=hs.sl;obtain⟨T,S,rfl⟩:=hi.sl;clear hs hi D F L;go_enter Tryz.func36,Tryz.ntmps36;go_wp2_with fail;refine Ga M.out ?_;rintro e w1 ⟨o,rfl,A,I⟩;have H:=g.size;have R:=(show Hid (aD w1 w.heap.size o ((dG t K).getD [])) from bQ A H);clear A M Q O N;go_wp2_with fail;refine lI (v:= .tuple #[o,.bool (dG t K).isSome]) (by simp[results,Tryz.results36,go_sem];try rfl) rfl ?_;exact⟨_,rfl,R.out,aH g I⟩
def LN (a b:List Rw)(t:PT)(w:nU)(e:Ending)(w':nU):Prop:=
 ((∃o r,cW a b t=some r/\e=.returned (.tuple #[o,.bool true])/\aD w' w.heap.size o r)\/(cW a b t=none/\∃x n c,e=.returned (.tuple #[.slice x n c,.bool false])))/\qA w.heap.size w w'
theorem Ip {a b:List Rw}(l6:a.length<=400)(l5:b.length<=400){t:PT}(hh:dT t=true)(g8:nZ a b t)(hs:cZ B w t s)(hi:eG w iv [a,b])
  (c9:∀i,i<t.len->∀(W:nU)(s':mF),cZ B W (t.ab i) s'->eG W iv [a,b]->lY fD 137 #[pl (t.ab i).k (t.ab i).n s',iv] W (LN a b (t.ab i) W)):
  lY fD 137 #[pl t.k t.n s,iv] w (LN a b t w):=by
 have HR:=(show Hid _ from c9);have HH:=(show Hid (dT t=true) from hh);have HF:=(show Hid (nZ a b t) from g8);have bP:Bk ((w.alloc (.cells #[.int .i64 t.k,.int .i64 t.n,s] 25)).alloc (.cells #[] 28)) w.heap.size #[.int .i64 t.k,.int .i64 t.n,s] 25:=(Bk.new _ _ rfl).alloc _;have oV:dN ((w.alloc (.cells #[.int .i64 t.k,.int .i64 t.n,s] 25)).alloc (.cells #[] 28)) (w.heap.size+1) (.slice (some ⟨w.heap.size+1,0,none⟩) 0 0) []:=FJ _ (by simp);have i0:qA w.heap.size w ((w.alloc (.cells #[.int .i64 t.k,.int .i64 t.n,s] 25)).alloc (.cells #[] 28)):=aG (aG (E0 _ _) _) _;have i1:=(show Hid (cZ B w t s) from hs);have i2:=(show Hid (eG w iv [a,b]) from hi);obtain⟨sa,sc,rfl⟩:=hs.sl;obtain⟨ig,b8,o3,f8,f5,c4,b9,rfl,r1,f7,f6,g1,g0,n5,n4⟩:=hi.two;have IC:=(show Hid (w.cell? ⟨ig,b8,none⟩=some (.slice f8 a.length f5)/\w.cell? ⟨ig,b8+1,none⟩=some (.slice c4 b.length b9)/\Rs w (.slice f8 a.length f5) a/\Rs w (.slice c4 b.length b9) b) from⟨f7,f6,g1,g0⟩);have q3:=PT.bp t;clear hs hi c9 hh g8 f7 f6 g1 g0;go_enter Tryz.func137,Tryz.ntmps137;go_wp2_with fail;generalize ((w.alloc (.cells #[.int .i64 t.k,.int .i64 t.n,.slice sa t.len sc] 25)).alloc (.cells #[] 28))=W0 at*
 go_loopw [6,7] (fun o i wr=>∃(k:Nat)(vs:List mF)(K:List (List Rw)),k<=t.len/\i=.int .i64 k/\K.length=k/\dN wr (w.heap.size+1) o vs/\gC wr (w.heap.size+1) vs K/\(∀j l,K[j]?=some l->cW a b (t.ab j)=some l)/\Bk wr w.heap.size #[.int .i64 t.k,.int .i64 t.n,.slice sa t.len sc] 25/\qA w.heap.size w wr) (fun _ i _=>t.len-(intOf i).toNat)
 case atStart=>exact⟨0,[],[],by omega,rfl,rfl,oV,gC.nil _ _,fun j l h=>by simp at h,bP,i0⟩
 case round=>
  clear i0 bP oV;obtain⟨k,vs,K,r0,rfl,x9,d3,e3,g5,bP,hb⟩:=hrel;have HO:=(show Hid (dN wr (w.heap.size+1) u6 vs) from d3);have HE:=(show Hid (gC wr (w.heap.size+1) vs K) from e3);have HP:=(show Hid _ from g5);have HV:Hid (vs.length=k):=by show _=_;rw[e3.1,x9]
  have g2:=hb.size;have o5:=bP.lt;obtain⟨x0,x1,x2⟩:=bP.aK;clear d3 e3 g5
  by_cases d4:k<t.len
  ·have ik:((k:Int)<(t.len:Int)):=by omega
   have g7:=i1.out.keep hb;obtain⟨g,off,sx,rfl,r2,c0,c1,c2,d5,b2,m2,d2,rfl⟩:=g7.at d4;have i3:=(show Hid _ from HR.out k d4 wr _ d5 (i2.out.keep hb));clear g7 d5;go_wp2_with fail;refine Ga i3.out ?_;rintro e w7 ⟨l0,e6⟩;have e5:=aH hb e6;have o4:=e6.size;clear i3 c0 c1 c2 x0 x1 x2
   rcases l0 with⟨o7,r7,b0,rfl,a4⟩|⟨b0,z1,z2,z3,rfl⟩
   ·have q6:r7.length<=400:=CP b0;obtain⟨a7,c7,e7,-⟩:=Rs.open (aD.rs a4 (by omega));subst e7;have bn:Bk (w7.alloc (.cells #[.slice a7 r7.length c7] 28)) w7.heap.size #[.slice a7 r7.length c7] 28:=Bk.new _ _ rfl;have b5:qA w7.heap.size w7 (w7.alloc (.cells #[.slice a7 r7.length c7] 28)):=aG (E0 _ _) _;have w3:=aH e6 b5;have Q:=(show Hid (dN (w7.alloc (.cells #[.slice a7 r7.length c7] 28)) (w.heap.size+1) u6 vs) from bJ HO.out w3);have m9:=(show Hid (gC (w7.alloc (.cells #[.slice a7 r7.length c7] 28)) (w.heap.size+1) (vs++[.slice a7 r7.length c7]) (K++[r7])) from (HE.out.keep w3).snoc (bJ (bQ a4 (by omega)) b5) (by omega));have m3:Hid (∀j l,(K++[r7])[j]?=some l->cW a b (t.ab j)=some l):=fun j l hj=>by
     rcases Nat.lt_or_ge j K.length with h|h
     ·rw[sH h]at hj;exact HP.out j l hj
     ·rw[sE h]at hj;have:j=k:=by
       have:=(sG.1 hj).1;simp at this;omega
      subst this;rw[x9,Nat.sub_self]at hj;cases hj;exact b0
    have l8:=bP.keep w3;have n3:=(show Hid _ from aH e5 b5);have k5:(w7.alloc (.cells #[.slice a7 r7.length c7] 28)).heap.size=w7.heap.size+1:=by simp
    clear a4 b5 w3 HO HE HP bP
    go_wp2_with (at_builtin;go_must (refine Lb _ rfl _ _ rfl (w.heap.size+1) _ vs rfl Q.out _ _ _ _ rfl bn (by have:=HV.out;omega) (by simp;omega) ?_);intro g9 o9 w9 J e1 q9)
    have F:qA w.heap.size w w9:=Below.aO n3.out e1 (by rw[k5];omega) (fun q e=>by have:=oB Q.out q e;omega);have l7:Bk w9 w.heap.size #[.int .i64 t.k,.int .i64 t.n,.slice (some ⟨g,off,none⟩) t.len sc] 25:=Bk.aO l8 e1 (fun q e=>by have:=oB Q.out q e;omega);refine⟨⟨k+1,_,_,by omega,by go_num,by simp[x9],J,m9.out.aO Q.out e1,m3.out,l7,F⟩,?_⟩;simp[intOf];omega
   ·have G:Hid (cW a b t=none):=Af d4 b0;go_wp2_with fail;refine lI (by simp[results,fH,go_sem];try rfl) rfl ?_;exact⟨.inr ⟨G.out,_,_,_,rfl⟩,aG e5 _⟩
  ·obtain rfl:k=t.len:=by omega
   have ik:¬((t.len:Int)<(t.len:Int)):=by omega
   have Z:Hid (cW a b t=qE (jB a b t K)):=Ei HH.out x9 HP.out;have LK:=HE.out.ly HO.out (by have:=HV.out;omega);have y9:∀l∈K,aZ l=true:=fun l hl=>by
    obtain⟨j,hj⟩:=wH hl;exact pY (HP.out j l hj)
   have u8:=EH (t:=t) y9 l6 l5;obtain⟨p1,p2,p3,p4⟩:=qK HH.out;have q5:(wr.alloc (.cells #[] 55)).heap.size=wr.heap.size+1:=by simp
   have S:qA wr.heap.size wr (wr.alloc (.cells #[] 55)):=aG (E0 _ _) _;have M:=aH hb S;have oE:=dW wr rfl;clear HO HE HP HR i1 i2 HV x0 x1;have T:=bP.keep S;clear bP;have l1:t.k=1\/t.k=2\/t.k=3\/t.k=4\/t.k=5\/t.k=6:=by omega
   rcases l1 with hk|hk|hk|hk|hk|hk
   ·rw[hk]at p3 p4 T;clear p2 x9;simp[eN,eP]at p3 p4;have hn:t.n=0\/t.n=1:=by omega
    rcases hn with hn|hn
    ·have H:Hid (jB a b t K=a):=by show _=_;unfold jB;rw[if_pos hk,if_pos hn]
     rw[H.out]at u8;rw[hn]at T;obtain⟨y0,y1,y2⟩:=T.aK;have d0:=cB M IC.out.1;have RA:=IC.out.2.2.1.keep M
     go_wp2_with (at_builtin;refine kZ _ rfl _ _ rfl wr.heap.size _ [] rfl oE _ a rfl RA (by simp;omega) (by simp) ?_;intro v8 I A e2)
     have R:qA w.heap.size w I:=Below.aO M e2 (by omega) (fun q e=>by have:=oB oE q e;omega);have A:aD I w.heap.size v8 a:=by have:=bQ A g2;simpa using this
     have R8:=aD.rs A (by omega);obtain⟨a8,c8,e8,-⟩:=Rs.open R8;subst e8;have Q:=(show Hid (aD I w.heap.size _ a) from A);clear A;refine (sB _ _ I R8).mono ?_;rintro e w9 ⟨rfl,N⟩;have F:=aH R N;cases ho:aZ a
     ·have G:Hid (cW a b t=none):=by show _=_;rw[Z.out,H.out,nH ho]
      go_wp2_with fail;refine lI (v:= .tuple #[.slice a8 a.length c8,.bool false]) (by simp[results,fH,go_sem];try rfl) rfl ?_;exact⟨.inr ⟨G.out,_,_,_,rfl⟩,F⟩
     ·have G:Hid (cW a b t=some a):=by show _=_;rw[Z.out,H.out,m7 ho]
      go_wp2_with fail;refine lI (v:= .tuple #[.slice a8 a.length c8,.bool true]) (by simp[results,fH,go_sem];try rfl) rfl ?_;exact⟨.inl ⟨_,_,G.out,rfl,bJ Q.out N⟩,F⟩
    ·have H:Hid (jB a b t K=b):=by show _=_;unfold jB;rw[if_pos hk,if_neg (by omega)]
     rw[H.out]at u8;rw[hn]at T;obtain⟨y0,y1,y2⟩:=T.aK;have d0:=cB M IC.out.2.1;have RA:=IC.out.2.2.2.keep M
     go_wp2_with (at_builtin;refine kZ _ rfl _ _ rfl wr.heap.size _ [] rfl oE _ b rfl RA (by simp;omega) (by simp) ?_;intro v8 I A e2)
     have R:qA w.heap.size w I:=Below.aO M e2 (by omega) (fun q e=>by have:=oB oE q e;omega);have A:aD I w.heap.size v8 b:=by have:=bQ A g2;simpa using this
     have R8:=aD.rs A (by omega);obtain⟨a8,c8,e8,-⟩:=Rs.open R8;subst e8;have Q:=(show Hid (aD I w.heap.size _ b) from A);clear A;refine (sB _ _ I R8).mono ?_;rintro e w9 ⟨rfl,N⟩;have F:=aH R N;cases ho:aZ b
     ·have G:Hid (cW a b t=none):=by show _=_;rw[Z.out,H.out,nH ho]
      go_wp2_with fail;refine lI (v:= .tuple #[.slice a8 b.length c8,.bool false]) (by simp[results,fH,go_sem];try rfl) rfl ?_;exact⟨.inr ⟨G.out,_,_,_,rfl⟩,F⟩
     ·have G:Hid (cW a b t=some b):=by show _=_;rw[Z.out,H.out,m7 ho]
      go_wp2_with fail;refine lI (v:= .tuple #[.slice a8 b.length c8,.bool true]) (by simp[results,fH,go_sem];try rfl) rfl ?_;exact⟨.inl ⟨_,_,G.out,rfl,bJ Q.out N⟩,F⟩
   ·rw[hk]at p2 p3 p4 T;obtain⟨x,rfl⟩:∃x,K=[x]:=by
     have hx:K.length=1:=by
      have:fA 2=1:=rfl;omega
     match K,hx with
     | [x],_=>exact⟨x,rfl⟩
    clear p2 x9;have H:Hid (jB a b t [x]=aP aQ (cN t.n x)):=by show _=_;unfold jB;rw[if_neg (by omega),hk];rfl
    rw[H.out]at u8;have hx:=y9 x (by simp);have y4:=j7 hx;have hw:cH t.n 1 7=true:=by simp[eN,eP]at p3 p4;simp[cH];exact⟨p3,p4⟩
    obtain⟨kg,L,w2,x5,x4,rfl,b1,U,Y,z4,z0⟩:=LK.one;obtain⟨y0,y1,y2⟩:=T.aK;have d0:=cB S U;have y8:=M.size;have rE:=Y.keep S;clear LK U Y;go_wp2_with fail;generalize (wr.alloc (.cells #[] 55))=D at*;have G:Hid (∀W,qA D.heap.size D W->W.cell? ⟨kg,L,none⟩=some (.slice x5 x.length x4)/\W.cell? ⟨w.heap.size,1,none⟩=some (.int .i64 t.n)):=fun W hW=>⟨cB hW d0,cB hW y1⟩;have O:qA D.heap.size D D.drew:=(E0 _ _).drew;have rD:=rE.keep O
    go_region_held3 (fun W=>W.cell? ⟨kg,L,none⟩=some (.slice x5 x.length x4)/\W.cell? ⟨w.heap.size,1,none⟩=some (.int .i64 t.n))
     (first|exact G.out _ O|exact G.out _ x7)
     (first
      | (go_at_call 188;with_reducible refine (FC _ x _ _ rD y4 hw).mono ?_;rintro e I ⟨o8,rfl,J,y5⟩;have x7:qA D.heap.size D I:=aH O y5))
    have R:qA w.heap.size w I:=aH M x7;have A:aD I w.heap.size o8 (aP aQ (cN t.n x)):=bQ J (by simpa using y8);clear J d0 y0 y1 y2;have R8:=aD.rs A (by omega);obtain⟨a8,c8,e8,-⟩:=Rs.open R8;subst e8;have Q:=(show Hid (aD I w.heap.size _ (aP aQ (cN t.n x))) from A);clear A;go_wp2_with fail;refine (sB _ _ I R8).mono ?_;rintro e w9 ⟨rfl,N⟩;have F:=aH R N;cases ho:aZ (aP aQ (cN t.n x))
    ·have G:Hid (cW a b t=none):=by show _=_;rw[Z.out,H.out,nH ho]
     go_wp2_with fail;refine lI (v:= .tuple #[.slice a8 (aP aQ (cN t.n x)).length c8,.bool false]) (by simp[results,fH,go_sem];try rfl) rfl ?_;exact⟨.inr ⟨G.out,_,_,_,rfl⟩,F⟩
    ·have G:Hid (cW a b t=some (aP aQ (cN t.n x))):=by show _=_;rw[Z.out,H.out,m7 ho]
     go_wp2_with fail;refine lI (v:= .tuple #[.slice a8 (aP aQ (cN t.n x)).length c8,.bool true]) (by simp[results,fH,go_sem];try rfl) rfl ?_;exact⟨.inl ⟨_,_,G.out,rfl,bJ Q.out N⟩,F⟩
   ·rw[hk]at p2 p3 p4 T;obtain⟨x,y,rfl⟩:∃x y,K=[x,y]:=by
     have hx:K.length=2:=by
      have:fA 3=2:=rfl;omega
     exact qZ hx
    clear p2 x9;have H:Hid (jB a b t [x,y]=aP aQ (x++y)):=by show _=_;unfold jB;rw[if_neg (by omega),hk];rfl
    rw[H.out]at u8;have hx:=y9 x (by simp);have hy:=y9 y (by simp);have y4:=j7 hx;have a6:=j7 hy;have q1:=fP y4;have q0:=fP a6;have q2:=A4 y4 a6;obtain⟨kg,L,w2,x5,x4,u4,u0,rfl,b1,U,a0,Y,a1,z4,z0⟩:=LK.two;obtain⟨y0,y1,y2⟩:=T.aK;have d0:=cB S U;have d1:=cB S a0;have y8:=M.size;have rE:=Y.keep S;have b6:=a1.keep S;clear LK U a0 Y a1;go_wp2_with fail;generalize (wr.alloc (.cells #[] 55))=D at*;have G:Hid (∀W,qA D.heap.size D W->W.cell? ⟨kg,L,none⟩=some (.slice x5 x.length x4)/\W.cell? ⟨kg,L+1,none⟩=some (.slice u4 y.length u0)):=fun W hW=>⟨cB hW d0,cB hW d1⟩;have O:qA D.heap.size D D.drew:=(E0 _ _).drew;have b3:qA D.heap.size D (D.alloc (.cells #[] 55)).drew:=(aG (E0 _ _) _).drew;have O0:aD (D.alloc (.cells #[] 55)).drew D.heap.size (.slice (some ⟨D.heap.size,0,none⟩) 0 0) []:=bJ (dW D rfl) (E0 _ _).drew;have rD:=rE.keep b3;have g3:=b3.size;have m4:Hid (∀(W:nU)(v:mF),aD W D.heap.size v ([]++x)->aD W D.heap.size v x):=fun W v h=>h
    go_region_held3 (fun W=>W.cell? ⟨kg,L,none⟩=some (.slice x5 x.length x4)/\W.cell? ⟨kg,L+1,none⟩=some (.slice u4 y.length u0))
     (first|exact G.out _ O|exact G.out _ b3|exact G.out _ b4|exact G.out _ e4|exact G.out _ x7)
     (first
      | (refine iU _ (by rfl) _ _ (by rfl) D.heap.size (.slice (some ⟨D.heap.size,0,none⟩) 0 0) [] (by first|rfl|(simp[go_sem];done)) O0 _ x (by first|rfl|(simp[go_sem];done)) rD (by simp;omega) g3 ?_;intro v4 w4 j1 l4;have b4:qA D.heap.size D w4:=Below.aO b3 l4 g3 (oB O0);have O4:=m4.out _ _ j1;have b7:=b6.keep b4;have g4:=b4.size)
      | (refine iU _ (by rfl) _ _ (by rfl) D.heap.size _ x (by first|rfl|(simp[go_sem];done)) O4 _ y (by first|rfl|(simp[go_sem];done)) b7 (by omega) g4 ?_;intro v5 w5 i5 l3;have e4:qA D.heap.size D w5:=Below.aO b4 l3 g4 (oB O4);have R5:=aD.rs i5 (by simp;omega);have q4:=e4.size)
      | (go_at_call 77;refine (k9 _ (x++y) _ R5 (by simp;omega) (by omega)).mono ?_;rintro e I ⟨o8,rfl,J,y5⟩;have x7:qA D.heap.size D I:=aH e4 y5))
    have R:qA w.heap.size w I:=aH M x7;have A:aD I w.heap.size o8 (aP aQ (x++y)):=bQ J (by omega);clear J d0 d1 y0 y1 y2;have R8:=aD.rs A (by omega);obtain⟨a8,c8,e8,-⟩:=Rs.open R8;subst e8;have Q:=(show Hid (aD I w.heap.size _ (aP aQ (x++y))) from A);clear A;go_wp2_with fail;refine (sB _ _ I R8).mono ?_;rintro e w9 ⟨rfl,N⟩;have F:=aH R N;cases ho:aZ (aP aQ (x++y))
    ·have G:Hid (cW a b t=none):=by show _=_;rw[Z.out,H.out,nH ho]
     go_wp2_with fail;refine lI (v:= .tuple #[.slice a8 (aP aQ (x++y)).length c8,.bool false]) (by simp[results,fH,go_sem];try rfl) rfl ?_;exact⟨.inr ⟨G.out,_,_,_,rfl⟩,F⟩
    ·have G:Hid (cW a b t=some (aP aQ (x++y))):=by show _=_;rw[Z.out,H.out,m7 ho]
     go_wp2_with fail;refine lI (v:= .tuple #[.slice a8 (aP aQ (x++y)).length c8,.bool true]) (by simp[results,fH,go_sem];try rfl) rfl ?_;exact⟨.inl ⟨_,_,G.out,rfl,bJ Q.out N⟩,F⟩
   ·rw[hk]at p2 p3 p4 T;obtain⟨x,rfl⟩:∃x,K=[x]:=by
     have hx:K.length=1:=by
      have:fA 4=1:=rfl;omega
     match K,hx with
     | [x],_=>exact⟨x,rfl⟩
    clear p2 x9;have H:Hid (jB a b t [x]=dA x):=by show _=_;unfold jB;rw[if_neg (by omega),hk];rfl
    rw[H.out]at u8;have hx:=y9 x (by simp);have y4:=j7 hx;obtain⟨kg,L,w2,x5,x4,rfl,b1,U,Y,z4,z0⟩:=LK.one;obtain⟨y0,y1,y2⟩:=T.aK;have d0:=cB S U;have y8:=M.size;have rE:=Y.keep S;clear LK U Y;go_wp2_with fail;refine (mU _ x _ rE).mono ?_;rintro e I ⟨o8,rfl,J,y5⟩;have R:qA w.heap.size w I:=aH M y5;have A:aD I w.heap.size o8 (dA x):=bQ J y8;clear J d0 y0 y1 y2;have R8:=aD.rs A (by omega);obtain⟨a8,c8,e8,-⟩:=Rs.open R8;subst e8;have Q:=(show Hid (aD I w.heap.size _ (dA x)) from A);clear A;go_wp2_with fail;refine (sB _ _ I R8).mono ?_;rintro e w9 ⟨rfl,N⟩;have F:=aH R N;cases ho:aZ (dA x)
    ·have G:Hid (cW a b t=none):=by show _=_;rw[Z.out,H.out,nH ho]
     go_wp2_with fail;refine lI (v:= .tuple #[.slice a8 (dA x).length c8,.bool false]) (by simp[results,fH,go_sem];try rfl) rfl ?_;exact⟨.inr ⟨G.out,_,_,_,rfl⟩,F⟩
    ·have G:Hid (cW a b t=some (dA x)):=by show _=_;rw[Z.out,H.out,m7 ho]
     go_wp2_with fail;refine lI (v:= .tuple #[.slice a8 (dA x).length c8,.bool true]) (by simp[results,fH,go_sem];try rfl) rfl ?_;exact⟨.inl ⟨_,_,G.out,rfl,bJ Q.out N⟩,F⟩
   ·rw[hk]at p2 p3 p4 T;obtain⟨x,y,rfl⟩:∃x y,K=[x,y]:=by
     have hx:K.length=2:=by
      have:fA 5=2:=rfl;omega
     exact qZ hx
    clear p2 x9;have H:Hid (jB a b t [x,y]=aP aQ (d8 x y)):=by show _=_;unfold jB;rw[if_neg (by omega),hk];rfl
    rw[H.out]at u8;have hx:=y9 x (by simp);have hy:=y9 y (by simp);have y4:=j7 hx;have a6:=j7 hy;obtain⟨kg,L,w2,x5,x4,u4,u0,rfl,b1,U,a0,Y,a1,z4,z0⟩:=LK.two;obtain⟨y0,y1,y2⟩:=T.aK;have d0:=cB S U;have d1:=cB S a0;have y8:=M.size;have rE:=Y.keep S;have b6:=a1.keep S;clear LK U a0 Y a1;go_wp2_with fail;generalize (wr.alloc (.cells #[] 55))=D at*;have G:Hid (∀W,qA D.heap.size D W->W.cell? ⟨kg,L,none⟩=some (.slice x5 x.length x4)/\W.cell? ⟨kg,L+1,none⟩=some (.slice u4 y.length u0)):=fun W hW=>⟨cB hW d0,cB hW d1⟩;have O:qA D.heap.size D D.drew:=(E0 _ _).drew;have rD:=rE.keep O;have b7:=b6.keep O
    go_region_held3 (fun W=>W.cell? ⟨kg,L,none⟩=some (.slice x5 x.length x4)/\W.cell? ⟨kg,L+1,none⟩=some (.slice u4 y.length u0))
     (first|exact G.out _ O|exact G.out _ x7)
     (first
      | (go_at_call 189;with_reducible refine (FN _ _ x y _ rD b7 y4 a6).mono ?_;rintro e I ⟨o8,rfl,J,y5⟩;have x7:qA D.heap.size D I:=aH O y5))
    have R:qA w.heap.size w I:=aH M x7;have A:aD I w.heap.size o8 (aP aQ (d8 x y)):=bQ J (by simpa using y8);clear J d0 d1 y0 y1 y2;have R8:=aD.rs A (by omega);obtain⟨a8,c8,e8,-⟩:=Rs.open R8;subst e8;have Q:=(show Hid (aD I w.heap.size _ (aP aQ (d8 x y))) from A);clear A;go_wp2_with fail;refine (sB _ _ I R8).mono ?_;rintro e w9 ⟨rfl,N⟩;have F:=aH R N;cases ho:aZ (aP aQ (d8 x y))
    ·have G:Hid (cW a b t=none):=by show _=_;rw[Z.out,H.out,nH ho]
     go_wp2_with fail;refine lI (v:= .tuple #[.slice a8 (aP aQ (d8 x y)).length c8,.bool false]) (by simp[results,fH,go_sem];try rfl) rfl ?_;exact⟨.inr ⟨G.out,_,_,_,rfl⟩,F⟩
    ·have G:Hid (cW a b t=some (aP aQ (d8 x y))):=by show _=_;rw[Z.out,H.out,m7 ho]
     go_wp2_with fail;refine lI (v:= .tuple #[.slice a8 (aP aQ (d8 x y)).length c8,.bool true]) (by simp[results,fH,go_sem];try rfl) rfl ?_;exact⟨.inl ⟨_,_,G.out,rfl,bJ Q.out N⟩,F⟩
   ·rw[hk]at p2 p3 p4 T;obtain⟨x,rfl⟩:∃x,K=[x]:=by
     have hx:K.length=1:=by
      have:fA 6=1:=rfl;omega
     match K,hx with
     | [x],_=>exact⟨x,rfl⟩
    clear p2 x9;have H:Hid (jB a b t [x]=aP aQ (fT t.n x)):=by show _=_;unfold jB;rw[if_neg (by omega),hk];rfl
    rw[H.out]at u8;have hx:=y9 x (by simp);have y4:=j7 hx;have hw:cH t.n 1 3=true:=by simp[eN,eP]at p3 p4;simp[cH];exact⟨p3,p4⟩
    obtain⟨kg,L,w2,x5,x4,rfl,b1,U,Y,z4,z0⟩:=LK.one;obtain⟨y0,y1,y2⟩:=T.aK;have d0:=cB S U;have y8:=M.size;have rE:=Y.keep S;clear LK U Y;go_wp2_with fail;generalize (wr.alloc (.cells #[] 55))=D at*;have G:Hid (∀W,qA D.heap.size D W->W.cell? ⟨kg,L,none⟩=some (.slice x5 x.length x4)/\W.cell? ⟨w.heap.size,1,none⟩=some (.int .i64 t.n)):=fun W hW=>⟨cB hW d0,cB hW y1⟩;have O:qA D.heap.size D D.drew:=(E0 _ _).drew;have rD:=rE.keep O
    go_region_held3 (fun W=>W.cell? ⟨kg,L,none⟩=some (.slice x5 x.length x4)/\W.cell? ⟨w.heap.size,1,none⟩=some (.int .i64 t.n))
     (first|exact G.out _ O|exact G.out _ x7)
     (first
      | (go_at_call 190;with_reducible refine (Gg _ x _ _ rD y4 hw).mono ?_;rintro e I ⟨o8,rfl,J,y5⟩;have x7:qA D.heap.size D I:=aH O y5))
    have R:qA w.heap.size w I:=aH M x7;have A:aD I w.heap.size o8 (aP aQ (fT t.n x)):=bQ J (by simpa using y8);clear J d0 y0 y1 y2;have R8:=aD.rs A (by omega);obtain⟨a8,c8,e8,-⟩:=Rs.open R8;subst e8;have Q:=(show Hid (aD I w.heap.size _ (aP aQ (fT t.n x))) from A);clear A;go_wp2_with fail;refine (sB _ _ I R8).mono ?_;rintro e w9 ⟨rfl,N⟩;have F:=aH R N;cases ho:aZ (aP aQ (fT t.n x))
    ·have G:Hid (cW a b t=none):=by show _=_;rw[Z.out,H.out,nH ho]
     go_wp2_with fail;refine lI (v:= .tuple #[.slice a8 (aP aQ (fT t.n x)).length c8,.bool false]) (by simp[results,fH,go_sem];try rfl) rfl ?_;exact⟨.inr ⟨G.out,_,_,_,rfl⟩,F⟩
    ·have G:Hid (cW a b t=some (aP aQ (fT t.n x))):=by show _=_;rw[Z.out,H.out,m7 ho]
     go_wp2_with fail;refine lI (v:= .tuple #[.slice a8 (aP aQ (fT t.n x)).length c8,.bool true]) (by simp[results,fH,go_sem];try rfl) rfl ?_;exact⟨.inl ⟨_,_,G.out,rfl,bJ Q.out N⟩,F⟩
theorem Ku {a b:List Rw}(F:a.length<=400)(D:b.length<=400):∀(d:Nat)(t:PT){s:mF}{w:nU},d7 t d=true->nZ a b t->cZ B w t s->eG w iv [a,b]->lY fD 137 #[pl t.k t.n s,iv] w (LN a b t w):=by
 intro d
 induction d with
 | zero=>intro t s w hp;rw[rF]at hp;cases hp
 | succ d ih=>
  intro t s w hp hf hs hi;obtain⟨H,G⟩:=sV hp;exact Ip F D H hf hs hi fun i g W s' hs' A=>ih (t.ab i) (G i g) (C5 hf g) hs' A
theorem n7 {t:PT}{K:List (List Rw)}(hs:cZ B w t s)(hi:eG w iv K)(Y:∀a b,K=[a,b]->d7 t 4=true->aZ a=true->aZ b=true->nZ a b t):
  lY fD 69 #[pl t.k t.n s,iv] w fun e w'=>∃o:mF,e=.returned (.tuple #[o,.bool (dG t K).isSome])/\aD w' w.heap.size o ((dG t K).getD [])/\qA w.heap.size w w':=by
 have bP:Bk (w.alloc (.cells #[.int .i64 t.k,.int .i64 t.n,s] 25)) w.heap.size #[.int .i64 t.k,.int .i64 t.n,s] 25:=Bk.new _ _ rfl;have h9:qA w.heap.size w (w.alloc (.cells #[.int .i64 t.k,.int .i64 t.n,s] 25)):=aG (E0 _ _) _;obtain⟨x0,x1,x2⟩:=bP.aK;have HS:=(show Hid (cZ B w t s) from hs);have HI:=(show Hid (eG w iv K) from hi);have HF:=(show Hid _ from Y);obtain⟨a,c,rfl⟩:=hs.sl;obtain⟨ia,ic,rfl,w4,z6,w2,-⟩:=hi.open;unfold maxLen at z6;clear hs hi Y;go_enter Tryz.func69,Tryz.ntmps69;go_wp2_with fail;refine (uB (HS.out.keep h9)).mono ?_;rintro e w1 ⟨rfl,Z⟩;have D:=aH h9 Z;have x3:=bP.keep Z;have U:=D.size;clear x0 x1 x2 bP;obtain⟨x0,x1,x2⟩:=x3.aK;cases hp:d7 t 4
 ·have A:Hid (dG t K=none):=CV hp;go_wp2_with fail;refine lI (by simp[results,jU,go_sem];try rfl) rfl ?_;exact⟨_,by rw[A.out];rfl,by rw[A.out];exact bQ (dW w1 rfl) U,aG D _⟩
 have HP:=(show Hid (d7 t 4=true) from hp)
 by_cases h2:K.length=2
 ·have ik:((K.length:Int)==2)=true:=by simp;omega
  have v8:(K.length:Int)=2:=by omega
  have z9:=(show Hid (K.length=2) from h2);clear h2;go_wp2_with fail
  go_loopw [6] (fun i wr=>∃k:Nat,k<=K.length/\i=.int .i64 k/\(K.take k).all aZ=true/\qA w1.heap.size w1 wr) (fun i _=>K.length-(intOf i).toNat)
  case atStart=>exact⟨0,by omega,rfl,by simp,E0 _ _⟩
  case round=>
   obtain⟨k,v9,rfl,Q,hb⟩:=hrel;have T:=(show Hid ((K.take k).all aZ=true) from Q);have H:=aH D hb;have y8:=H.size;clear Q x0 x1 x2
   by_cases z5:k<K.length
   ·obtain⟨l,hl⟩:∃l,K[k]?=some l:=⟨_,sI z5⟩;obtain⟨a',v6,e',-,-,-,J⟩:=(HI.out.keep H).open;cases e';obtain⟨g,off,ad,cp,rfl,hg,c0,hR⟩:=J k l hl;have y7:((k:Int)<(K.length:Int)):=by omega
    have HL:=(show Hid (K[k]?=some l) from hl);clear J hl;go_wp2_with fail;refine (sB _ l wr hR).mono ?_;rintro e w3 ⟨rfl,z8⟩;have O:=aH hb z8;cases ho:aZ l
    ·have A:Hid (dG t K=none):=by
      refine CD ?_;rw[AT];exact⟨l,rN HL.out,by simp[ho]⟩
     have N:=aH D O;have z0:=N.size;go_wp2_with fail;refine lI (by simp[results,jU,go_sem];try rfl) rfl ?_;exact⟨_,by rw[A.out];rfl,by rw[A.out];exact bQ (dW w3 rfl) z0,aG N _⟩
    ·have A:Hid ((K.take (k+1)).all aZ=true):=by
      show _=_
      rw[gL HL.out,BK,T.out];simp[ho]
     go_wp2_with fail;go_roundw
     case rel=>exact⟨k+1,by omega,by go_num,A.out,O⟩
     case measure=>simp[intOf];omega
   ·obtain rfl:k=K.length:=by omega
    rw[B3]at T;have y7:¬((K.length:Int)<(K.length:Int)):=by omega
    obtain⟨M,lb,R⟩:=qZ z9.out;have F:aZ M=true/\aZ lb=true:=by have:=T.out;rw[R]at this;simpa using this
    have A:Hid (dG t K=cW M lb t):=by show _=_;rw[R];exact CT HP.out F.1 F.2
    have HM:=(show Hid _ from Ku (uU F.1) (uU F.2) 4 t HP.out (HF.out M lb R HP.out F.1 F.2) (HS.out.keep H) (by rw[<- R];exact HI.out.keep H));have u0:=x3.keep hb;obtain⟨y0,y1,y2⟩:=u0.aK;clear HF R F T;go_wp2_with fail;refine Ga HM.out ?_;rintro e w5 ⟨z4,z7⟩;have I:=aH H z7;have y9:=I.size;clear HM
    rcases z4 with⟨o5,r5,G,rfl,L⟩|⟨G,z1,z2,z3,rfl⟩
    ·have O5:=(show Hid (aD w5 w.heap.size o5 r5) from bQ L y8);have S:=(show Hid (cW M lb t=some r5) from G);clear L G;go_wp2_with fail;refine lI (v:= .tuple #[o5,.bool true]) (by simp[results,jU,go_sem];try rfl) rfl ?_;exact⟨_,by rw[A.out,S.out];rfl,by rw[A.out,S.out];exact O5.out,I⟩
    ·have S:=(show Hid (cW M lb t=none) from G);clear G;go_wp2_with fail;refine lI (by simp[results,jU,go_sem];try rfl) rfl ?_;exact⟨_,by rw[A.out,S.out];rfl,by rw[A.out,S.out];exact bQ (dW w5 rfl) y9,aG I _⟩
 ·have ik:((K.length:Int)==2)=false:=by simp;omega
  have A:Hid (dG t K=none):=Cf h2;go_wp2_with fail;refine lI (by simp[results,jU,go_sem];try rfl) rfl ?_;exact⟨_,by rw[A.out];rfl,by rw[A.out];exact bQ (dW w1 rfl) U,aG D _⟩
theorem pZ {t:PT}{K:List (List Rw)}{r:List Rw}(h:dG t K=some r):aZ r=true:=by
 obtain⟨a,b,_,_,_,_,hp⟩:=oG h;exact pY hp
theorem k7 {t:PT}{K:List (List Rw)}{r:List Rw}(h:dG t K=some r):r.length<=400:=fP (j7 (pZ h))
theorem Eh (A:oJ){t:PT}{K:List (List Rw)}{r:List Rw}(hf:dG t K=some r)(g:t.sm)(hs:cZ B w t s)(hi:eG w iv K)(hg:w.cell? ⟨0,0,none⟩=some (iB A)):
  lY fD 36 #[pl t.k t.n s,iv] w fun e a=>∃o:mF,e=.returned (.tuple #[o,.bool true])/\Rs a o r/\qA w.heap.size w a:=by
 refine (rK A g hs hi hg (fun _ _ _ _ _ _=>trivial)).mono ?_;rintro e w1 ⟨o,rfl,own,D⟩;rw[hf]at own ⊢;exact⟨o,rfl,aD.rs own (by have:=k7 hf;simp;omega),D⟩
theorem Eu (A:oJ){t:PT}{K:List (List Rw)}(hf:dG t K=none)(g:t.sm)(hs:cZ B w t s)(hi:eG w iv K)(hg:w.cell? ⟨0,0,none⟩=some (iB A)):
  lY fD 36 #[pl t.k t.n s,iv] w fun e a=>∃o:mF,e=.returned (.tuple #[o,.bool false])/\Rs a o []/\qA w.heap.size w a:=by
 refine (rK A g hs hi hg (fun _ _ _ _ _ _=>trivial)).mono ?_;rintro e w1 ⟨o,rfl,own,D⟩;rw[hf]at own ⊢;exact⟨o,rfl,aD.rs own (by simp),D⟩
theorem EW {t:PT}{K:List (List Rw)}{r:List Rw}(hf:dG t K=some r)(hs:cZ B w t s)(hi:eG w iv K):
  lY fD 69 #[pl t.k t.n s,iv] w fun e a=>∃o:mF,e=.returned (.tuple #[o,.bool true])/\Rs a o r/\qA w.heap.size w a:=by
 refine (n7 hs hi (fun _ _ _ _ _ _=>trivial)).mono ?_;rintro e w1 ⟨o,rfl,own,g⟩;rw[hf]at own ⊢;exact⟨o,rfl,aD.rs own (by have:=k7 hf;simp;omega),g⟩
theorem FH {t:PT}{K:List (List Rw)}(hf:dG t K=none)(hs:cZ B w t s)(hi:eG w iv K):
  lY fD 69 #[pl t.k t.n s,iv] w fun e a=>∃o:mF,e=.returned (.tuple #[o,.bool false])/\Rs a o []/\qA w.heap.size w a:=by
 refine (n7 hs hi (fun _ _ _ _ _ _=>trivial)).mono ?_;rintro e w1 ⟨o,rfl,own,g⟩;rw[hf]at own ⊢;exact⟨o,rfl,aD.rs own (by simp),g⟩
end Go.Proofs.YtbdpcngcbnoioaaGreatDoor
