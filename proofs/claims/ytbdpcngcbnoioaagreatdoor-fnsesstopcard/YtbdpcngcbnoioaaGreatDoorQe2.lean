import Derived.Test.YtbdpcngcbnoioaaGreatDoorGpm
import Derived.Test.YtbdpcngcbnoioaaGreatDoorGf2
import Derived.Test.YtbdpcngcbnoioaaGreatDoorGj4
import Derived.Test.YtbdpcngcbnoioaaGreatDoorGqc
import Derived.Test.YtbdpcngcbnoioaaGreatDoorDp1
set_option maxRecDepth 100000
set_option maxHeartbeats 16000000
namespace Go.Proofs.YtbdpcngcbnoioaaGreatDoor
open Go.RowKit Go.Shelf
open Go.Proofs.Tryz renaming prog->fM,results74->fQ,func74->gD,ntmps74->gM,results72->gQ,results141->gX,func73->iM
open Go renaming bodyPost_ret->iP,Calls->jB,Value->jO,Addr->mO,World->nA
open Go.RowKit renaming Below->nB
open Go.RowKit.Below renaming refl->nT
open _root_.List renaming getElem?_eq_some_iff->nX,mem_of_getElem?->oU,getElem?_of_mem->oW
open _root_.Option renaming bind_eq_some_iff->pU
open Go.Calls renaming mono->qV
variable {B:Nat}{iv kv s sd sf si sp:jO}{n x y:Int}{p:Nat->Prop}{w:nA}
theorem Ew {a b:List It}(hn:n=0\/n=1)(hi:kE w iv [a,b])(V:a.length<=400)(U:b.length<=400)(L:∃x m c,kv=.slice x m c):
  jB fM 74 #[.iface 172 (.int .i64 n),iv,kv] w fun e J=>∃o:jO,e=.returned (.tuple #[o,.nilIface])/\aQ J w.heap.size o (if n=0 then a else b)/\nB w.heap.size w J:=by
 obtain⟨g,off,Z,ad,cp,h9,Y,rfl,hg,c0,c1,S,R,Q,O⟩:=hi.two;obtain⟨x,m,c,rfl⟩:=L;have T:=QQ n
 rcases hn with rfl|rfl
 ·have D:Hid (aQ w w.heap.size (.slice none 0 0) []):=oN _ _ _ _ _;go_enter gD,gM
  go_wp2_with (at_builtin;refine EB _ rfl _ _ rfl w.heap.size _ [] rfl D.out _ a rfl S (by simp;omega) (by omega) ?_;intro M I A G)
  have H:nB w.heap.size w I:=Below.aU (nT _ _) G (by omega) (bU D.out);refine iP (v:= .tuple #[_,.nilIface]) (by simp[results,fQ,go_sem];try rfl) rfl ?_;exact⟨_,rfl,by simpa using A,H⟩
 ·have D:Hid (aQ w w.heap.size (.slice none 0 0) []):=oN _ _ _ _ _;go_enter gD,gM
  go_wp2_with (at_builtin;refine EB _ rfl _ _ rfl w.heap.size _ [] rfl D.out _ b rfl R (by simp;omega) (by omega) ?_;intro M I A G)
  have H:nB w.heap.size w I:=Below.aU (nT _ _) G (by omega) (bU D.out);refine iP (v:= .tuple #[_,.nilIface]) (by simp[results,fQ,go_sem];try rfl) rfl ?_;exact⟨_,rfl,by simpa using A,H⟩
theorem CD {x:List It}(hi:∃x m c,iv=.slice x m c)(J:kE w kv [x]):
  jB fM 74 #[.iface 173 (.int .i64 n),iv,kv] w fun e A=>∃o:jO,e=.returned (.tuple #[o,.nilIface])/\aQ A w.heap.size o (eU x n)/\nB w.heap.size w A:=by
 obtain⟨g,off,S,ad,Y,rfl,hg,Z,M,L,I⟩:=J.one;obtain⟨V,U,T,rfl⟩:=hi;have R:=QR n;have Q:=QS n;go_enter gD,gM;go_wp2_with fail;refine (BC _ x n w M).mono ?_;rintro e G ⟨H,rfl,a,D⟩;have O:=(show Hid (aQ G w.heap.size H (eU x n)) from a);clear a;go_wp2_with fail;refine iP (v:= .tuple #[_,.nilIface]) (by simp[results,fQ,go_sem];try rfl) rfl ?_;exact⟨_,rfl,O.out,D⟩
theorem CF {x:List It}(hi:∃x m c,iv=.slice x m c)(J:kE w kv [x]):
  jB fM 74 #[.iface 177 (.int .i64 n),iv,kv] w fun e A=>∃o:jO,e=.returned (.tuple #[o,.nilIface])/\aQ A w.heap.size o (nM x)/\nB w.heap.size w A:=by
 obtain⟨g,off,U,ad,cp,rfl,hg,c0,M,L,I⟩:=J.one;obtain⟨Z,Y,V,rfl⟩:=hi;have T:=QW n;have S:=QX n;have R:=QY n;have Q:=QZ n;go_enter gD,gM;go_wp2_with fail;refine (BD _ x w M).mono ?_;rintro e G ⟨H,rfl,a,D⟩;have O:=(show Hid (aQ G w.heap.size H (nM x)) from a);clear a;go_wp2_with fail;refine iP (v:= .tuple #[_,.nilIface]) (by simp[results,fQ,go_sem];try rfl) rfl ?_;exact⟨_,rfl,O.out,D⟩
theorem CB {x y:List It}(hi:∃x m c,iv=.slice x m c)(Z:kE w kv [x,y]):
  jB fM 74 #[.iface 175 (.int .i64 n),iv,kv] w fun e J=>∃o:jO,e=.returned (.tuple #[o,.nilIface])/\aQ J w.heap.size o (kO x y)/\nB w.heap.size w J:=by
 obtain⟨g,off,x5,ad,Q,H,G,rfl,hg,c0,c1,S,R,h9,Y⟩:=Z.two;obtain⟨i1,i2,i3,rfl⟩:=hi;have T:Hid (∀W,nB w.heap.size w W->W.cell? ⟨g,off,none⟩=some (.slice ad x.length Q)/\W.cell? ⟨g,off+1,none⟩=some (.slice H y.length G)):=fun W O=>⟨cB O c0,cB O c1⟩;have a:nB w.heap.size w w.drew:=(nT _ _).drew;have U:=S.keep a;have L:=R.keep a;have x4:=QT n;have x3:=QU n;have x2:=QV n;clear S R;go_enter gD,gM;go_wp2_with fail
 go_region_held3 (fun W=>W.cell? ⟨g,off,none⟩=some (.slice ad x.length Q)/\W.cell? ⟨g,off+1,none⟩=some (.slice H y.length G))
  (first|exact T.out _ a|exact T.out _ D)
  (first
   | (go_at_call 145;with_reducible refine (BB _ _ x y _ U L).mono ?_;rintro e I ⟨V,rfl,A,M⟩;have D:nB w.heap.size w I:=aG a M))
 all_goals
  have hs:=a.size;have O3:=(show Hid (aQ I w.drew.heap.size V (kO x y)) from A);clear A;go_wp2_with fail;refine iP (v:= .tuple #[_,.nilIface]) (by simp[results,fQ,go_sem];try rfl) rfl ?_;exact⟨_,rfl,cW O3.out hs,D⟩
theorem CE {x y:List It}(hx:aX x=true)(hy:aX y=true)(R:aJ x<=1200000)(Q:aJ y<=1200000)(hi:∃x m c,iv=.slice x m c)(hk:kE w kv [x,y]):
  jB fM 74 #[.iface 178 (.int .i64 n),iv,kv] w fun e J=>∃o:jO,e=.returned (.tuple #[o,.nilIface])/\aQ J w.heap.size o (aO bJ (eY x y))/\nB w.heap.size w J:=by
 obtain⟨g,off,y0,ad,S,H,G,rfl,hg,c0,c1,U,T,x2,x0⟩:=hk.two;obtain⟨i1,i2,i3,rfl⟩:=hi;have V:Hid (∀W,nB w.heap.size w W->W.cell? ⟨g,off,none⟩=some (.slice ad x.length S)/\W.cell? ⟨g,off+1,none⟩=some (.slice H y.length G)):=fun W O=>⟨cB O c0,cB O c1⟩;have a:nB w.heap.size w w.drew:=(nT _ _).drew;have Y:=U.keep a;have L:=T.keep a;have x9:=Qa n;have x8:=Qb n;have x7:=Qc n;have x6:=Qd n;have x5:=Qe n;clear U T;go_enter gD,gM;go_wp2_with fail
 go_region_held3 (fun W=>W.cell? ⟨g,off,none⟩=some (.slice ad x.length S)/\W.cell? ⟨g,off+1,none⟩=some (.slice H y.length G))
  (first|exact V.out _ a|exact V.out _ D)
  (first
   | (go_at_call 147;with_reducible refine (Dw _ _ x y _ Y L hx hy R Q).mono ?_;rintro e I ⟨Z,rfl,A,M⟩;have D:nB w.heap.size w I:=aG a M))
 all_goals
  have hs:=a.size;have O3:=(show Hid (aQ I w.drew.heap.size Z (aO bJ (eY x y))) from A);clear A;go_wp2_with fail;refine iP (v:= .tuple #[_,.nilIface]) (by simp[results,fQ,go_sem];try rfl) rfl ?_;exact⟨_,rfl,cW O3.out hs,D⟩
theorem Du {x:List It}(hn:cG n 1 3=true)(hi:∃x m c,iv=.slice x m c)(R:kE w kv [x]):
  jB fM 74 #[.iface 180 (.int .i64 n),iv,kv] w fun e D=>∃o:jO,e=.returned (.tuple #[o,.nilIface])/\aQ D w.heap.size o (dE n x)/\nB w.heap.size w D:=by
 obtain⟨fn,H⟩:=Li hn;have L:=(show Hid _ from H.of);have eg:=H.eg;have J:=(show Hid _ from H.sum);obtain⟨g,off,x4,ad,cp,rfl,hg,I,U,S,Q⟩:=R.one;obtain⟨i1,i2,i3,rfl⟩:=hi;have Y:=(show Hid _ from I);have x3:=Qf n;have x2:=Qg n;have x1:=Qh n;have x0:=Qi n;have h9:=Qj n;have Z:=Qk n;clear H I;go_enter gD,gM;go_wp2_with fail;refine (L.out _).mono ?_;rintro e w1 ⟨rfl,a⟩;have d0:=cB a Y.out;have T:=U.keep a;go_wp2_with fail;refine (J.out _ x w1 T).mono ?_;rintro e M ⟨O,rfl,A,G⟩;have V:=(show Hid (aQ M w1.heap.size O (dE n x)) from A);have hs:=a.size;clear A;go_wp2_with fail;refine iP (v:= .tuple #[_,.nilIface]) (by simp[results,fQ,go_sem];try rfl) rfl ?_;exact⟨_,rfl,cW V.out hs,aG a G⟩
theorem Ld (n:Int)(x:List It):(dE n x).length<=400:=by
 unfold dE
 split
 ·have:=Av x;omega
 split
 ·exact DS x
 ·have:=BL x;omega
theorem My {a b:List It}{t:PT}{K:List (List It)}(D:∀l∈K,aX l=true)(H:a.length<=400)(G:b.length<=400):(tD a b t K).length<=1000000:=by
 have hg:∀i,aX (K.getD i [])=true:=fun i=>by
  rw[List.getD_eq_getElem?_getD];cases h:K[i]? with
  | none=>exact CR
  | some l=>exact D l (oU h)
 have h0:=hg 0;have h1:=hg 1;unfold tD
 split
 ·split<;>omega
 ·generalize K.getD 0 []=x at*;generalize K.getD 1 []=y at*;have A:=dF h0;have g:=dF h1;unfold Ba
  split
  ·have:=K0 x t.n;omega
  split
  ·have:=Jp x y;omega
  split
  ·have:=Kj x;omega
  split
  ·rw[uA h0 h1];have:=gP bJ (eY x y);have:=N3 x y;have:x.length*y.length<=400*400:=Nat.mul_le_mul A g;omega
  ·have:=Ld t.n x;omega
theorem Dt {a b:List It}{t:PT}{K:List (List It)}(V:dZ t=true)(hl:K.length=t.len)(S:∀l∈K,aX l=true)(J:∀l∈K,aJ l<=1200000)(O:a.length<=400)(L:b.length<=400)(hi:kE w iv [a,b])(G:kE w kv K):
  jB fM 74 #[dQ t,iv,kv] w fun e D=>∃o:jO,e=.returned (.tuple #[o,.nilIface])/\aQ D w.heap.size o (tD a b t K)/\(tD a b t K).length<=1000000/\nB w.heap.size w D:=by
 have Q:=My (t:=t) S O L;obtain⟨T,g,I,H⟩:=m6 V;have key:jB fM 74 #[dQ t,iv,kv] w fun e D=>∃o:jO,e=.returned (.tuple #[o,.nilIface])/\aQ D w.heap.size o (tD a b t K)/\nB w.heap.size w D:=by
  obtain⟨ia,ic,A⟩:=hi.sl;obtain⟨ka,Z,U⟩:=G.sl;cases t with
  | n0 k n=>
   obtain rfl:=BO V;simp[eH,eP,PT.k,PT.n]at I H;exact Ew (n:=n) (by omega) hi O L ⟨_,_,_,U⟩
  | n1 k n x=>
   obtain⟨l,rfl⟩:∃l,K=[l]:=by
    match K,hl with
    | [l],_=>exact⟨l,rfl⟩
   simp only[PT.k,PT.n,PT.len]at T g I H;have R:k=1\/k=2\/k=3\/k=4\/k=5\/k=6:=by omega
   rcases R with rfl|rfl|rfl|rfl|rfl|rfl
   ·exact absurd g (by decide)
   ·exact CD ⟨_,_,_,A⟩ G
   ·exact absurd g (by decide)
   ·exact CF ⟨_,_,_,A⟩ G
   ·exact absurd g (by decide)
   ·exact Du (by simp[eH,eP]at I H;simp[cG];exact⟨I,H⟩) ⟨_,_,_,A⟩ G
  | n2 k n x y=>
   obtain⟨l,m,rfl⟩:∃l m,K=[l,m]:=by
    match K,hl with
    | [l,m],_=>exact⟨l,m,rfl⟩
   have Y:=S l (by simp);have M:=S m (by simp);simp only[PT.k,PT.n,PT.len]at T g I H;have R:k=1\/k=2\/k=3\/k=4\/k=5\/k=6:=by omega
   rcases R with rfl|rfl|rfl|rfl|rfl|rfl
   ·exact absurd g (by decide)
   ·exact absurd g (by decide)
   ·exact CB ⟨_,_,_,A⟩ G
   ·exact absurd g (by decide)
   ·have e:tD a b (.n2 5 n x y) [l,m]=aO bJ (eY l m):=uA Y M;rw[e];exact CE Y M (J l (by simp)) (J m (by simp)) ⟨_,_,_,A⟩ G
   ·exact absurd g (by decide)
 refine key.mono ?_;rintro e D ⟨o,rfl,h1,h2⟩;exact⟨o,rfl,h1,Q,h2⟩
theorem IS (v:jO)(K:List (List It))(w:nA)(h:kE w v K):
  jB fM 140 #[v,.func (.func 73) #[] #[]] w fun e Q=>e=.returned (.bool (K.all aX))/\nB w.heap.size w Q:=by
 have eg:=enters_of (P:=fM) iM (by kernel_rfl) rfl;have V:=(show Hid (kE w v K) from h);obtain⟨a,Z,rfl,hc,hm,hn,-⟩:=h.open;unfold maxLen at hm;clear h;go_enter Tryz.func140,Tryz.ntmps140;go_wp2_with fail
 go_loopw [9] (fun i wr=>∃k:Nat,k<=K.length/\i=.int .i64 k/\(K.take k).all aX=true/\nB w.heap.size w wr) (fun i _=>K.length-(intOf i).toNat)
 case atStart=>exact⟨0,by omega,rfl,by simp,nT _ _⟩
 case round=>
  obtain⟨k,Y,rfl,D,H⟩:=hrel;have J:=(show Hid ((K.take k).all aX=true) from D);clear D
  by_cases L:k<K.length
  ·obtain⟨l,hl⟩:∃l,K[k]?=some l:=⟨_,List.getElem?_eq_getElem L⟩;obtain⟨a',U,T,-,-,-,A⟩:=(V.out.keep H).open;cases T;obtain⟨g,off,ad,cp,rfl,hg,c0,S⟩:=A k l hl;have R:((k:Int)<(K.length:Int)):=by omega
   have O:=(show Hid (K[k]?=some l) from hl);clear A hl;go_wp2_with fail;refine (rM _ l wr S).mono ?_;rintro e w1 ⟨rfl,M⟩;have G:=aG H M;cases ho:aX l
   ·have I:Hid (K.all aX=false):=by
     show _=_
     rw[List.all_eq_false];exact⟨l,oU O.out,by simp[ho]⟩
    go_wp2_with fail;go_ret;exact⟨by rw[I.out];rfl,G⟩
   ·have I:Hid ((K.take (k+1)).all aX=true):=by
     show _=_
     rw[fK O.out,List.all_append,J.out];simp[ho]
    go_wp2_with fail;go_roundw
    case rel=>exact⟨k+1,by omega,by go_num,I.out,G⟩
    case measure=>simp[intOf];omega
  ·obtain rfl:k=K.length:=by omega
   rw[List.take_length]at J;have R:¬((K.length:Int)<(K.length:Int)):=by omega
   go_wp2_with fail;go_ret;exact⟨by rw[J.out];rfl,H⟩
def IM (ea:mO)(a b:List It)(t:PT)(w:nA)(e:Ending)(w':nA):Prop:=
 ((∃o r,dS a b t=some r/\e=.returned (.tuple #[o,.nilIface])/\aQ w' w.heap.size o r)\/(dS a b t=none/\e=.returned (.tuple #[.slice none 0 0,gJ ea])))/\nB w.heap.size w w'
theorem P3 {t:PT}{a:Option mO}{n c:Nat}(h:iU p w t (.slice a n c)){i:Nat}(hi:i<t.len):
  ∃g off sx,a=some ⟨g,off,none⟩/\g<w.heap.size/\w.cell? ⟨g,off+i*2,none⟩=some (dQ (t.ab i))/\w.cell? ⟨g,off+i*2+1,none⟩=some sx/\iU p w (t.ab i) sx/\(∃b m d,sx=.slice b m d):=by
 cases t with
 | n0 k n=>simp[PT.len]at hi
 | n1 k n x=>
  obtain⟨g,c,sx,e,_,h1,h2,h3⟩:=h;obtain rfl:i=0:=by simp[PT.len]at hi;exact hi
  cases e;obtain⟨b,d,A⟩:=h3.sl;exact⟨g,0,sx,rfl,lC h1,by simpa[PT.ab]using h1,by simpa using h2,h3,_,_,_,A⟩
 | n2 k n x y=>
  obtain⟨g,c,sx,sy,e,_,h1,h2,h3,h4,h5,h6⟩:=h;cases e;cases i with
  | zero=>
   obtain⟨b,d,A⟩:=h5.sl;exact⟨g,0,sx,rfl,lC h1,by simpa[PT.ab]using h1,by simpa using h2,h5,_,_,_,A⟩
  | succ i=>
   obtain rfl:i=0:=by simp[PT.len]at hi;omega
   obtain⟨b,d,A⟩:=h6.sl;exact⟨g,0,sy,rfl,lC h1,by simpa[PT.ab]using h3,by simpa using h4,h6,_,_,_,A⟩
theorem uF {a:nA}(A:nB w.heap.size w a){t:PT}(h:iU p w t s):iU p a t s:=h.move fun g hg hl=>⟨hg,A.block g hl⟩
theorem FF (ea:mO){a b:List It}(w5:a.length<=400)(w3:b.length<=400){t:PT}(hh:dZ t=true)(z3:mI a b t)(hs:iU p w t s)(hi:kE w iv [a,b])(hg:w.cell? ⟨0,0,none⟩=some (gJ ea))
  (x4:∀i,i<t.len->∀(W:nA)(s':jO),iU p W (t.ab i) s'->kE W iv [a,b]->W.cell? ⟨0,0,none⟩=some (gJ ea)->jB fM 141 #[.agg #[dQ (t.ab i),s'],iv,.func (.func 73) #[] #[],.func (.func 74) #[] #[]] W (IM ea a b (t.ab i) W)):
  jB fM 141 #[.agg #[dQ t,s],iv,.func (.func 73) #[] #[],.func (.func 74) #[] #[]] w (IM ea a b t w):=by
 have eg:=enters_of (P:=fM) iM (by kernel_rfl) rfl;have f9:=enters_of (P:=fM) gD (by kernel_rfl) rfl;have HR:=(show Hid _ from x4);have HH:=(show Hid (dZ t=true) from hh);have HF:=(show Hid (mI a b t) from z3);have z5:nB w.heap.size w (w.alloc (.cells #[dQ t,s] 161)):=aH (nT _ _) _;have Q:Bk (w.alloc (.cells #[dQ t,s] 161)) w.heap.size #[dQ t,s] 161:=Bk.new _ _ rfl;have a6:=(show Hid (iU p w t s) from hs);have z8:=(show Hid (kE w iv [a,b]) from hi);obtain⟨sa,sc,rfl⟩:=hs.sl;obtain⟨ig,d0,d5,f1,f0,d6,d4,rfl,-⟩:=hi.two;have f2:=PT.cd t;obtain⟨x0,x1,_,_⟩:=Q.two;clear hs hi x4 hh z3;go_enter Tryz.func141,Tryz.ntmps141;go_wp2_with fail;generalize w.alloc (.cells #[dQ t,.slice sa t.len sc] 161)=W0 at*;clear x0 x1
 go_loopw [10,20] (fun o i wr=>∃(k:Nat)(vs:List jO)(K:List (List It)),k<=t.len/\i=.int .i64 k/\K.length=k/\jW wr (w.heap.size+1) o vs/\nU wr (w.heap.size+1) vs K/\(∀j l,K[j]?=some l->dS a b (t.ab j)=some l)/\Bk wr w.heap.size #[dQ t,.slice sa t.len sc] 161/\nB w.heap.size w wr) (fun _ i _=>t.len-(intOf i).toNat)
 case atStart=>exact⟨0,[],[],by omega,rfl,rfl,oN _ _ _ _ _,nU.nil _ _,fun j l h=>by simp at h,Q,z5⟩
 case round=>
  clear z5 Q;obtain⟨k,vs,K,f6,rfl,G,x5,x8,y8,Q,hb⟩:=hrel;have HO:=(show Hid (jW wr (w.heap.size+1) u10 vs) from x5);have HE:=(show Hid (nU wr (w.heap.size+1) vs K) from x8);have HP:=(show Hid _ from y8);have HV:Hid (vs.length=k):=by show _=_;rw[x8.1,G]
  have w1:=hb.size;have d9:=Q.lt;clear x5 x8 y8
  by_cases x6:k<t.len
  ·have ik:((k:Int)<(t.len:Int)):=by omega
   have z1:=uF hb a6.out;obtain⟨g,off,sx,rfl,f7,c0,c1,x7,b2,m2,d2,rfl⟩:=P3 z1 x6;have bx:=Bk.new (w:=wr) #[dQ (t.ab k),.slice b2 m2 d2] 161 rfl;have Y:nB wr.heap.size wr (wr.alloc (.cells #[dQ (t.ab k),.slice b2 m2 d2] 161)):=aH (nT _ _) _;have L:=aG hb Y;have z9:=(show Hid _ from HR.out k x6 _ _ (uF Y x7) (z8.out.keep L) (cB L hg));obtain⟨q0,q1,_,_⟩:=bx.two;clear z1 x7 bx;go_wp2_with fail;refine qV z9.out ?_;rintro e H ⟨z0,y3⟩;have y2:nB wr.heap.size wr H:=aG Y y3;have x9:=aG L y3;have d7:=y2.size;have y7:(wr.alloc (.cells #[dQ (t.ab k),.slice b2 m2 d2] 161)).heap.size=wr.heap.size+1:=by simp
   rw[y7]at z0;clear z9 q0 q1 Y L y3 c0 c1 y7
   rcases z0 with⟨o7,I,U,rfl,S⟩|⟨U,rfl⟩
   ·have f3:I.length<=400:=L7 U;obtain⟨T,c7,e7,-⟩:=Is.open (aQ.is S (by omega));subst e7;have bn:Bk (H.alloc (.cells #[.slice T I.length c7] 35)) H.heap.size #[.slice T I.length c7] 35:=Bk.new _ _ rfl;have Z:nB H.heap.size H (H.alloc (.cells #[.slice T I.length c7] 35)):=aH (nT _ _) _;have M:=aG y2 Z;have J:=(show Hid (jW (H.alloc (.cells #[.slice T I.length c7] 35)) (w.heap.size+1) u10 vs) from cC HO.out M);have b3:=(show Hid (nU (H.alloc (.cells #[.slice T I.length c7] 35)) (w.heap.size+1) (vs++[.slice T I.length c7]) (K++[I])) from (HE.out.keep M).snoc (cC (cW S (by omega)) Z) (by omega));have a9:Hid (∀j l,(K++[I])[j]?=some l->dS a b (t.ab j)=some l):=fun j l D=>by
     rcases Nat.lt_or_ge j K.length with h|h
     ·rw[List.getElem?_append_left h]at D;exact HP.out j l D
     ·rw[List.getElem?_append_right h]at D;have:j=k:=by
       have:=(nX.1 D).1;simp at this;omega
      subst this;rw[G,Nat.sub_self]at D;cases D;exact U
    have a3:=Q.keep M;have b4:=(show Hid _ from aG x9 Z);have v9:(H.alloc (.cells #[.slice T I.length c7] 35)).heap.size=H.heap.size+1:=by simp
    clear S Z M HO HE HP Q
    go_wp2_with (at_builtin;go_must (refine Qw _ rfl _ _ rfl (w.heap.size+1) _ vs rfl J.out _ _ _ _ rfl bn (by have:=HV.out;omega) (by simp;omega) ?_);intro g9 e3 w9 v1 V f5)
    have A:nB w.heap.size w w9:=Below.aU b4.out V (by rw[v9];omega) (fun q e=>by have:=bU J.out q e;omega);have a2:Bk w9 w.heap.size #[dQ t,.slice (some ⟨g,off,none⟩) t.len sc] 161:=Bk.aU a3 V (fun q e=>by have:=bU J.out q e;omega);refine⟨⟨k+1,_,_,by omega,by go_num,by simp[G],v1,b3.out.aU J.out V,a9.out,a2,A⟩,?_⟩;simp[intOf];omega
   ·have HX:Hid (dS a b t=none):=JG x6 U;go_wp2_with fail;refine iP (v:= .tuple #[.slice none 0 0,gJ ea]) (by simp[results,gX,go_sem];try rfl) rfl ?_;exact⟨.inr ⟨HX.out,rfl⟩,x9⟩
  ·obtain rfl:k=t.len:=by omega
   have ik:¬((t.len:Int)<(t.len:Int)):=by omega
   have z7:Hid (dS a b t=sT (tD a b t K)):=N7 HH.out G HP.out;have LK:=HE.out.ly HO.out (by have:=HV.out;omega);have hK:∀l∈K,aX l=true:=fun l hl=>by
    obtain⟨j,D⟩:=oW hl;exact pN (HP.out j l D)
   have v3:∀l∈K,aJ l<=1200000:=fun l hl=>by
    obtain⟨j,D⟩:=oW hl;exact (En HF.out (by rw[<- G];exact (nX.1 D).1)).2 l (HP.out j l D)
   have HM:=(show Hid _ from Dt HH.out G hK v3 w5 w3 (z8.out.keep hb) LK);have f8:=cB hb hg;obtain⟨ka,kc,a0⟩:=LK.sl;subst a0;obtain⟨y0,y1,_,_⟩:=Q.two;clear LK HO HE HP hK G;go_wp2_with fail;refine qV HM.out ?_;rintro e w8 ⟨o8,rfl,R,f4,w4⟩;have v4:=aG hb w4;have R8:=aQ.is R (by omega);obtain⟨a8,c8,e8,-⟩:=Is.open R8;subst e8;have J:=(show Hid (aQ w8 w.heap.size _ _) from cW R w1);clear R HM y0 y1;generalize tD a b t K=O at*;go_wp2_with fail;refine (rM _ _ w8 R8).mono ?_;rintro e w9 ⟨rfl,z4⟩;have A:=aG v4 z4;cases ho:aX O
   ·have HX:Hid (dS a b t=none):=by show _=_;rw[z7.out,OX ho]
    have V:=cB A hg;go_wp2_with fail
    go_quiet (fail)
    have d8:=cB (dV A nq) hg;go_wp2_with fail;refine iP (v:= .tuple #[.slice none 0 0,gJ ea]) (by simp[results,gX,go_sem];try rfl) rfl ?_;exact⟨.inr ⟨HX.out,rfl⟩,dV A _⟩
   ·have HX:Hid (dS a b t=some O):=by show _=_;rw[z7.out,sU ho]
    go_wp2_with fail;refine iP (v:= .tuple #[.slice a8 O.length c8,.nilIface]) (by simp[results,gX,go_sem];try rfl) rfl ?_;exact⟨.inl ⟨_,_,HX.out,rfl,cC J.out z4⟩,A⟩
theorem Gh (A:mO){a b:List It}(J:a.length<=400)(I:b.length<=400):∀(d:Nat)(t:PT){s:jO}{w:nA},cP t d=true->mI a b t->iU p w t s->kE w iv [a,b]->w.cell? ⟨0,0,none⟩=some (gJ A) ->
  jB fM 141 #[.agg #[dQ t,s],iv,.func (.func 73) #[] #[],.func (.func 74) #[] #[]] w (IM A a b t w):=by
 intro d
 induction d with
 | zero=>intro t s w hp;rw[lI]at hp;cases hp
 | succ d ih=>
  intro t s w hp hf hs hi hg;obtain⟨M,L⟩:=lA hp;exact FF A J I M hf hs hi hg fun i g W s' D G H=>ih (t.ab i) (L i g) (K5 hf g) D G H
theorem FY (ea:mO){t:PT}{K:List (List It)}(h9:t.sm)(hs:dN B w t s)(hi:kE w iv K)(hg:w.cell? ⟨0,0,none⟩=some (gJ ea))(x4:∀a b,K=[a,b]->cP t 4=true->aX a=true->aX b=true->mI a b t):
  jB fM 72 #[pl t.k t.n s,iv,.func (.func 73) #[] #[],.func (.func 74) #[] #[]] w fun e w'=>∃o:jO,e=.returned (.tuple #[o,.bool (gV t K).isSome])/\aQ w' w.heap.size o ((gV t K).getD [])/\nB w.heap.size w w':=by
 have bP:Bk (w.alloc (.cells #[.int .i64 t.k,.int .i64 t.n,s] 25)) w.heap.size #[.int .i64 t.k,.int .i64 t.n,s] 25:=Bk.new _ _ rfl;have L:nB w.heap.size w (w.alloc (.cells #[.int .i64 t.k,.int .i64 t.n,s] 25)):=aH (nT _ _) _;obtain⟨x0,x1,x2⟩:=bP.aR;have HC:=(show Hid _ from BW ea 4 t 1 (by omega) (by omega) h9 (hs.keep L) (cB L hg));have HI:=(show Hid (kE w iv K) from hi);have HF:=(show Hid _ from x4);obtain⟨a,c,rfl⟩:=hs.sl;obtain⟨ia,ic,rfl⟩:=hi.sl;clear hs h9 bP hi x4;go_enter Tryz.func72,Tryz.ntmps72;go_wp2_with fail;refine qV HC.out ?_;rintro e w1 ⟨Q,x5⟩;have S:=aG L x5;clear HC x0 x1 x2
 rcases Q with⟨hp,Z,Y,c3,rfl,x3⟩|⟨hp,rfl⟩
 ·have D:=aH S (.cells #[dQ t,.slice Z Y c3] 161);have bO:Bk (w1.alloc (.cells #[dQ t,.slice Z Y c3] 161)) w1.heap.size #[dQ t,.slice Z Y c3] 161:=Bk.new _ _ rfl;have R:=(show Hid _ from uF (aH (nT w1.heap.size w1) (.cells #[dQ t,.slice Z Y c3] 161)) x3);have y6:=cB D hg;have HP:=(show Hid (cP t 4=true) from hp);clear x3 x5 S hp L
  by_cases h2:K.length=2
  ·have ik:((K.length:Int)==2)=true:=by simp;omega
   have v4:(K.length:Int)=2:=by omega
   have y8:=(show Hid (K.length=2) from h2);clear h2;go_wp2_with fail;refine (vM _ _).mono ?_;rintro e w2 ⟨rfl,rfl⟩;go_wp2_with fail;refine (IS _ K _ (HI.out.keep D)).mono ?_;rintro e w4 ⟨rfl,T⟩;have A:=aG D T;cases J:K.all aX
   ·have g:Hid (gV t K=none):=KA J;go_wp2_with fail;refine iP (v:= .tuple #[.slice none 0 0,.bool false]) (by simp[results,gQ,go_sem];try rfl) rfl ?_;exact⟨_,by rw[g.out];rfl,by rw[g.out];exact oN _ _ _ _ _,A⟩
   ·obtain⟨O,lb,U⟩:=rJ y8.out;have G:aX O=true/\aX lb=true:=by rw[U]at J;simpa using J
    have g:Hid (gV t K=dS O lb t):=by show _=_;rw[U];exact D9 HP.out G.1 G.2
    have HM:=(show Hid _ from Gh ea (dF G.1) (dF G.2) 4 t HP.out (HF.out O lb U HP.out G.1 G.2) (uF T R.out) (by rw[<- U];exact HI.out.keep A) (cB A hg));have x6:=bO.keep T;obtain⟨y0,y1,_,_⟩:=x6.two;clear R HF U G bO x6;go_wp2_with fail;refine qV HM.out ?_;rintro e w5 ⟨Q,y7⟩;have I:=aG A y7;have y5:=A.size;have v5:=cB I hg;clear HM
    rcases Q with⟨o5,r5,H,rfl,M⟩|⟨H,rfl⟩
    ·have O5:=(show Hid (aQ w5 w.heap.size o5 r5) from cW M y5);have V:=(show Hid (dS O lb t=some r5) from H);clear M H;go_wp2_with fail;refine (vM _ _).mono ?_;rintro e w6 ⟨rfl,rfl⟩;go_wp2_with fail;refine iP (v:= .tuple #[o5,.bool true]) (by simp[results,gQ,go_sem];try rfl) rfl ?_;exact⟨_,by rw[g.out,V.out];rfl,by rw[g.out,V.out];exact O5.out,I⟩
    ·have V:=(show Hid (dS O lb t=none) from H);clear H;go_wp2_with fail;refine (zI _ _).mono ?_;rintro e w6 ⟨rfl,rfl⟩;go_wp2_with fail;refine iP (v:= .tuple #[.slice none 0 0,.bool false]) (by simp[results,gQ,go_sem];try rfl) rfl ?_;exact⟨_,by rw[g.out,V.out];rfl,by rw[g.out,V.out];exact oN _ _ _ _ _,I⟩
  ·have ik:((K.length:Int)==2)=false:=by simp;omega
   have g:Hid (gV t K=none):=K9 h2;go_wp2_with fail;refine (vM _ _).mono ?_;rintro e w2 ⟨rfl,rfl⟩;go_wp2_with fail;refine iP (v:= .tuple #[.slice none 0 0,.bool false]) (by simp[results,gQ,go_sem];try rfl) rfl ?_;exact⟨_,by rw[g.out];rfl,by rw[g.out];exact oN _ _ _ _ _,D⟩
 ·have D:=aH S (.cells #[.nilIface,.slice none 0 0] 161);have y6:=cB D hg;have g:Hid (gV t K=none):=K8 hp;go_wp2_with fail;refine (zI _ _).mono ?_;rintro e w2 ⟨rfl,rfl⟩;go_wp2_with fail;refine iP (v:= .tuple #[.slice none 0 0,.bool false]) (by simp[results,gQ,go_sem];try rfl) rfl ?_;exact⟨_,by rw[g.out];rfl,by rw[g.out];exact oN _ _ _ _ _,D⟩
theorem B7 (L:mO){t:PT}{K:List (List It)}(D:t.sm)(hs:dN B w t s)(hi:kE w iv K)(hg:w.cell? ⟨0,0,none⟩=some (gJ L))(G:∀a b,K=[a,b]->cP t 4=true->aX a=true->aX b=true->mI a b t):
  jB fM 20 #[pl t.k t.n s,iv] w fun e H=>∃o:jO,e=.returned (.tuple #[o,.bool (gV t K).isSome])/\aQ H w.heap.size o ((gV t K).getD [])/\nB w.heap.size w H:=by
 have M:Bk (w.alloc (.cells #[.int .i64 t.k,.int .i64 t.n,s] 25)) w.heap.size #[.int .i64 t.k,.int .i64 t.n,s] 25:=Bk.new _ _ rfl;have g:nB w.heap.size w (w.alloc (.cells #[.int .i64 t.k,.int .i64 t.n,s] 25)):=aH (nT _ _) _;obtain⟨S,R,Q⟩:=M.aR;have O:=(show Hid _ from FY L D (hs.keep g) (hi.keep g) (cB g hg) G);obtain⟨a,c,rfl⟩:=hs.sl;obtain⟨V,U,rfl⟩:=hi.sl;clear hs hi D G M;go_enter Tryz.func20,Tryz.ntmps20;go_wp2_with fail;refine qV O.out ?_;rintro e w1 ⟨o,rfl,A,J⟩;have I:=g.size;have T:=(show Hid (aQ w1 w.heap.size o ((gV t K).getD [])) from cW A I);clear A O S R Q;go_wp2_with fail;refine iP (v:= .tuple #[o,.bool (gV t K).isSome]) (by simp[results,Tryz.results20,go_sem];try rfl) rfl ?_;exact⟨_,rfl,T.out,aG g J⟩
theorem IY {t:PT}{K:List (List It)}{r:List It}(h:gV t K=some r):∃a b,K=[a,b]/\cP t 4=true/\aX a=true/\aX b=true/\dS a b t=some r:=by
 unfold gV at h;split at h
 ·rename_i a b
  split at h
  ·rename_i g;simp only[Bool.and_eq_true]at g;exact⟨a,b,rfl,g.1.1,g.1.2,g.2,h⟩
  ·cases h
 ·cases h
theorem KB {t:PT}{K:List (List It)}{r:List It}(h:gV t K=some r):aX r=true:=by
 obtain⟨a,b,_,_,_,_,hp⟩:=IY h;exact pN hp
theorem K7 {t:PT}{K:List (List It)}{r:List It}(h:gV t K=some r):r.length<=400:=dF (KB h)
open Go.RowKit
theorem LU {s:SS}(hn:j9 s x y=none)(h:gE w sp si sf sd s):
  jB fM 15 #[sv s.t.k s.t.n sp si sf sd,tv x y] w fun e g=>∃(a:Option mO)(c:Nat),e=.returned (.tuple #[.slice a 0 c,.bool false])/\Is g (.slice a 0 c) []/\nB w.heap.size w g:=by
 refine (vV x y h).mono ?_;rintro e w1 ⟨a,c,rfl,hi,A⟩;rw[hn]at hi ⊢;exact⟨a,c,rfl,hi,A⟩
theorem JQ {s:SS}{l:List It}(hn:j9 s x y=some l)(h:gE w sp si sf sd s):
  jB fM 15 #[sv s.t.k s.t.n sp si sf sd,tv x y] w fun e g=>∃(a:Option mO)(c:Nat),e=.returned (.tuple #[.slice a l.length c,.bool true])/\Is g (.slice a l.length c) l/\nB w.heap.size w g:=by
 refine (vV x y h).mono ?_;rintro e w1 ⟨a,c,rfl,hi,A⟩;rw[hn]at hi ⊢;exact⟨a,c,rfl,hi,A⟩
theorem uX (D:mO){s:SS}(hn:j9 s x y=none)(A:s.t.sm)(h:gE w sp si sf sd s)(hg:w.cell? ⟨0,0,none⟩=some (gJ D)):
  jB fM 16 #[sv s.t.k s.t.n sp si sf sd,tv x y] w fun e g=>∃(a:Option mO)(c:Nat),e=.returned (.tuple #[.slice a 0 c,.bool false])/\Is g (.slice a 0 c) []/\nB w.heap.size w g:=by
 refine (vL D x y A h hg).mono ?_;rintro e w1 ⟨a,c,rfl,hi,G⟩;rw[hn]at hi ⊢;exact⟨a,c,rfl,hi,G⟩
theorem wQ (D:mO){s:SS}{l:List It}(hn:j9 s x y=some l)(A:s.t.sm)(h:gE w sp si sf sd s)(hg:w.cell? ⟨0,0,none⟩=some (gJ D)):
  jB fM 16 #[sv s.t.k s.t.n sp si sf sd,tv x y] w fun e g=>∃(a:Option mO)(c:Nat),e=.returned (.tuple #[.slice a l.length c,.bool true])/\Is g (.slice a l.length c) l/\nB w.heap.size w g:=by
 refine (vL D x y A h hg).mono ?_;rintro e w1 ⟨a,c,rfl,hi,G⟩;rw[hn]at hi ⊢;exact⟨a,c,rfl,hi,G⟩
theorem MA {s:SS}{l:List It}(h:j9 s x y=some l):(dI s).isSome=true/\bM x y=true/\fY s.f x y=false/\aM s.d x y=l:=by
 unfold j9 at h
 split at h
 ·rename_i a;simp only[Bool.and_eq_true,Bool.not_eq_true']at a;exact⟨a.1.1,a.1.2,a.2,Option.some.inj h⟩
 ·cases h
theorem ES {s:SS}{l:List It}{r:List Rw}(h:j9 s x y=some l)(hr:dI s=some r):l=aM r x y:=by
 obtain⟨_,_,a,rfl⟩:=MA h;obtain⟨_,h2,h3⟩:=fW.1 hr;rw[<- h3];exact GM (tU h2) a
theorem JF {a b:List It}(ha:aJ a<=1089)(I:aJ b<=1089):∀(d:Nat)(t:PT){r:List It},cP t d=true->dS a b t=some r->aJ r<=xN (d+1):=by
 intro d
 induction d with
 | zero=>intro t r hp;rw[lI]at hp;cases hp
 | succ d ih=>
  intro t r hp h;obtain⟨H,A⟩:=lA hp;cases t with
  | n0 k n=>
   obtain⟨_,rfl⟩:=pF.1 h;have h1:=Jl (show 2<=d+1+1 by omega);have h2:xN 2=1089:=by decide
   split<;>omega
  | n1 k n x=>
   obtain⟨s,hs,h2⟩:=pU.1 h;obtain⟨_,rfl⟩:=pF.1 h2;have g:=A 0 (by simp[PT.len]);have i0:=ih x g hs;exact Hw (pN hs) CR (xY _) i0 (by have:=xY (d+1);simp[aJ];omega)
  | n2 k n x y=>
   obtain⟨s,hs,h2⟩:=pU.1 h;obtain⟨u,D,h3⟩:=pU.1 h2;obtain⟨_,rfl⟩:=pF.1 h3;have g:=A 0 (by simp[PT.len]);have G:=A 1 (by simp[PT.len]);exact Hw (pN hs) (pN D) (xY _) (ih x g hs) (ih y G D)
theorem K6 {a b:List It}(ha:aJ a<=1089)(A:aJ b<=1089):∀(d:Nat)(t:PT),d<=3->cP t d=true->mI a b t:=by
 intro d
 induction d with
 | zero=>intro t _ hp;rw[lI]at hp;cases hp
 | succ d ih=>
  intro t hd hp;obtain⟨D,g⟩:=lA hp;have key:∀i,i<t.len->mI a b (t.ab i)/\∀r,dS a b (t.ab i)=some r->aJ r<=1200000:=fun i hi=>by
   refine⟨ih _ (by omega) (g i hi),fun r hr=>?_⟩;have h1:=JF ha A d _ (g i hi) hr;have h2:=Jl (show d+1<=3 by omega);have h3:xN 3=1185921:=by decide
   omega
  cases t with
  | n0 k n=>trivial
  | n1 k n x=>exact key 0 (by simp[PT.len])
  | n2 k n x y=>exact⟨key 0 (by simp[PT.len]),key 1 (by simp[PT.len])⟩
theorem q9 (H:mO){t:PT}{K:List (List It)}{r:List It}(hf:gV t K=some r)(D:cP t 3=true)(G:∀l∈K,aJ l<=1089)(A:t.sm)(hs:dN B w t s)(hi:kE w iv K)(hg:w.cell? ⟨0,0,none⟩=some (gJ H)):
  jB fM 20 #[pl t.k t.n s,iv] w fun e g=>∃o:jO,e=.returned (.tuple #[o,.bool true])/\Is g o r/\nB w.heap.size w g:=by
 refine (B7 H A hs hi hg (fun a b e _ _ _=>by subst e;exact K6 (G a (by simp)) (G b (by simp)) 3 t (by omega) D)).mono ?_;rintro e w1 ⟨o,rfl,own,I⟩;rw[hf]at own ⊢;exact⟨o,rfl,aQ.is own (by have:=K7 hf;simp;omega),I⟩
theorem A0 {t:PT}{K:List (List Rw)}{r:List Rw}(h:dK t K=some r){X Y:Int}(A:bM X Y=true):gV t (K.map fun l=>aM l X Y)=some (aM r X Y):=by
 obtain⟨a,b,rfl,hp,ha,g,hr⟩:=nH h
 show gV t [aM a X Y,aM b X Y]=_
 rw[D9 hp (cO _ _ _) (cO _ _ _)];exact sC ha g A hp hr
theorem Az {K:List (List Rw)}(a:∀l∈K,aJ l<=54)(X Y:Int):∀l∈K.map (fun l=>aM l X Y),aJ l<=1089:=by
 intro l hl;obtain⟨m,hm,rfl⟩:=List.mem_map.1 hl;have h1:=KU (l:=m) X Y;have h2:=a m hm;omega
end Go.Proofs.YtbdpcngcbnoioaaGreatDoor
