import Derived.Test.YtbdpcngcbnoioaaGreatDoorGa4
import Derived.LaidEql
import Derived.Stop.Asserts
import Derived.RowKitTokens
import Derived.Test.YtbdpcngcbnoioaaGreatDoorIta
import Derived.Deep.AppendLies
import Derived.LoopTactic
import Derived.Deep.DeepMust
set_option maxRecDepth 100000
set_option maxHeartbeats 16000000
namespace Go.Proofs.YtbdpcngcbnoioaaGreatDoor
open Go.RowKit
open Go.Proofs.Tryz renaming prog->fM,results191->fQ,ntmps191->gD,func191->gM,results138->gQ,ntmps138->gX,func138->iM,underlying163->iP,results226->jB,ntmps175->jO,ntmps139->mO,func320->nA,func319->nB,func318->nT,func317->nX,func316->oU,func302->oW,func175->pU,func139->qV
open Go renaming bodyPost_ret->sD,World->tJ,Value->tK,Calls->tL,Addr->tM,run_callFunc_extern->tN,method->xU
open Go.Instr renaming typeAssert->xV
open Go.RowKit.Below renaming refl->AP,heap_setCell->AW
open Go.RowKit renaming Below->C5
open Go.Extern.ReflectliteType renaming typeOf->Df,method->E8
open _root_.Bool renaming and_eq_true->Fj
open _root_.Option renaming map_eq_some_iff->Fl
open _root_.Nat renaming lt_or_ge->Ih,le_trans->JK,zero_le->M1
open Go.World renaming cell?_of_block->Nk,cell?->Qz
open Go.Extern.Rtype renaming noPackHeld->RW
open Go.Proofs renaming enters_of->Re
variable {B d g i:Nat}{deep:Int}{s v:tK}{t:TypeId}{w w':tJ}
inductive PT where
 | n0 (k n:Int)
 | n1 (k n:Int) (a:PT)
 | n2 (k n:Int) (a b:PT)
def PT.k:PT->Int
 | .n0 k _=>k
 | .n1 k _ _=>k
 | .n2 k _ _ _=>k
def PT.n:PT->Int
 | .n0 _ n=>n
 | .n1 _ n _=>n
 | .n2 _ n _ _=>n
def PT.len:PT->Nat
 | .n0 _ _=>0
 | .n1 _ _ _=>1
 | .n2 _ _ _ _=>2
def PT.ab:PT->Nat->PT
 | .n1 _ _ a,_=>a
 | .n2 _ _ a _,0=>a
 | .n2 _ _ _ b,_=>b
 | t,_=>t
def PT.sm:PT->Prop
 | .n0 _ n=>0<=n/\n<=99
 | .n1 _ n a=>(0<=n/\n<=99)/\a.sm
 | .n2 _ n a b=>(0<=n/\n<=99)/\a.sm/\b.sm
theorem PT.dh {t:PT}(h:t.sm):0<=t.n/\t.n<=99:=by
 cases t
 ·exact h
 ·exact h.1
 ·exact h.1
theorem PT.di {t:PT}(h:t.sm)(hi:i<t.len):(t.ab i).sm:=by
 cases t with
 | n0 k n=>simp[PT.len]at hi
 | n1 k n a=>exact h.2
 | n2 k n a b=>
  cases i with
  | zero=>exact h.2.1
  | succ i=>exact h.2.2
def dN (B:Nat)(w:tJ):PT->tK->Prop
 | .n0 _ _,s=>∃a c,s=.slice a 0 c
 | .n1 _ _ x,s=>∃g off c sx,s=.slice (some ⟨g,off,none⟩) 1 c/\B<=g/\w.cell? ⟨g,off,none⟩=some (.int .i64 x.k)/\w.cell? ⟨g,off+1,none⟩=some (.int .i64 x.n)/\w.cell? ⟨g,off+2,none⟩=some sx/\dN B w x sx
 | .n2 _ _ x y,s=>∃g off c sx sy,s=.slice (some ⟨g,off,none⟩) 2 c/\B<=g/\w.cell? ⟨g,off,none⟩=some (.int .i64 x.k)/\w.cell? ⟨g,off+1,none⟩=some (.int .i64 x.n)/\w.cell? ⟨g,off+2,none⟩=some sx/\w.cell? ⟨g,off+3,none⟩=some (.int .i64 y.k)/\w.cell? ⟨g,off+4,none⟩=some (.int .i64 y.n)/\w.cell? ⟨g,off+5,none⟩=some sy/\dN B w x sx/\dN B w y sy
theorem dN.sl {t:PT}(h:dN B w t s):∃a c,s=.slice a t.len c:=by
 cases t with
 | n0 k n=>obtain⟨a,c,rfl⟩:=h;exact⟨_,_,rfl⟩
 | n1 k n x=>obtain⟨g,off,c,sx,rfl,_⟩:=h;exact⟨_,_,rfl⟩
 | n2 k n x y=>obtain⟨g,off,c,sx,sy,rfl,_⟩:=h;exact⟨_,_,rfl⟩
theorem dN.at {t:PT}{a:Option tM}{n c:Nat}(h:dN B w t (.slice a n c))(hi:i<t.len):
  ∃g off sx,a=some ⟨g,off,none⟩/\g<w.heap.size/\w.cell? ⟨g,off+i*3,none⟩=some (.int .i64 (t.ab i).k)/\w.cell? ⟨g,off+i*3+1,none⟩=some (.int .i64 (t.ab i).n)/\w.cell? ⟨g,off+i*3+2,none⟩=some sx/\dN B w (t.ab i) sx/\(∃b m d,sx=.slice b m d):=by
 cases t with
 | n0 k n=>simp[PT.len]at hi
 | n1 k n x=>
  obtain⟨g,off,c,sx,e,_,h1,h2,h3,h4⟩:=h;obtain rfl:i=0:=by simp[PT.len]at hi;exact hi
  cases e;obtain⟨b,d,A⟩:=h4.sl;exact⟨g,off,sx,rfl,lC h1,by simpa[PT.ab]using h1,by simpa[PT.ab]using h2,by simpa using h3,h4,_,_,_,A⟩
 | n2 k n x y=>
  obtain⟨g,off,c,sx,sy,e,_,h1,h2,h3,h4,h5,h6,h7,h8⟩:=h;cases e;cases i with
  | zero=>
   obtain⟨b,d,A⟩:=h7.sl;exact⟨g,off,sx,rfl,lC h1,by simpa[PT.ab]using h1,by simpa[PT.ab]using h2,by simpa using h3,h7,_,_,_,A⟩
  | succ i=>
   obtain rfl:i=0:=by simp[PT.len]at hi;omega
   obtain⟨b,d,A⟩:=h8.sl;exact⟨g,off,sy,rfl,lC h1,by simpa[PT.ab]using h4,by simpa[PT.ab]using h5,by simpa using h6,h8,_,_,_,A⟩
theorem dN.keep {B:Nat}{w w':tJ}(A:C5 w.heap.size w w'):∀{t:PT}{s:tK},dN B w t s->dN B w' t s
 | .n0 _ _,_,h=>h
 | .n1 _ _ _,_,⟨g,off,c,sx,e,hg,h1,h2,h3,h4⟩=>⟨g,off,c,sx,e,hg,cB A h1,cB A h2,cB A h3,dN.keep A h4⟩
 | .n2 _ _ _ _,_,⟨g,off,c,sx,sy,e,hg,h1,h2,h3,h4,h5,h6,h7,h8⟩=>⟨g,off,c,sx,sy,e,hg,cB A h1,cB A h2,cB A h3,cB A h4,cB A h5,cB A h6,dN.keep A h7,dN.keep A h8⟩
theorem nF {q:Nat}(hx:Bx q w w')(hg:g≠q)(h:w.cell? ⟨g,i,none⟩=some v):w'.cell? ⟨g,i,none⟩=some v:=by
 rw[Nk (w:=w) (hx.block g (lC h) hg)];exact h
theorem dN.aN {B q:Nat}{w w':tJ}(hx:Bx q w w')(hq:q<B):∀{t:PT}{s:tK},dN B w t s->dN B w' t s
 | .n0 _ _,_,h=>h
 | .n1 _ _ _,_,⟨g,off,c,sx,e,hg,h1,h2,h3,h4⟩=>⟨g,off,c,sx,e,hg,nF hx (by omega) h1,nF hx (by omega) h2,nF hx (by omega) h3,dN.aN hx hq h4⟩
 | .n2 _ _ _ _,_,⟨g,off,c,sx,sy,e,hg,h1,h2,h3,h4,h5,h6,h7,h8⟩=>⟨g,off,c,sx,sy,e,hg,nF hx (by omega) h1,nF hx (by omega) h2,nF hx (by omega) h3,nF hx (by omega) h4,nF hx (by omega) h5,nF hx (by omega) h6,dN.aN hx hq h7,dN.aN hx hq h8⟩
theorem dN.less {B B':Nat}{w:tJ}(A:B'<=B):∀{t:PT}{s:tK},dN B w t s->dN B' w t s
 | .n0 _ _,_,h=>h
 | .n1 _ _ _,_,⟨g,off,c,sx,e,hg,h1,h2,h3,h4⟩=>⟨g,off,c,sx,e,JK A hg,h1,h2,h3,dN.less A h4⟩
 | .n2 _ _ _ _,_,⟨g,off,c,sx,sy,e,hg,h1,h2,h3,h4,h5,h6,h7,h8⟩=>⟨g,off,c,sx,sy,e,JK A hg,h1,h2,h3,h4,h5,h6,dN.less A h7,dN.less A h8⟩
abbrev pl (k n:Int)(s:tK):tK:= .agg #[.int .i64 k,.int .i64 n,s]
def fO (k:Int):Int:=if k=1 then 0 else if k=2 then 1 else if k=3 then 2 else if k=4 then 1 else if k=5 then 2 else if k=6 then 1 else -1
def eH (k:Int):Int:=if k=2 then 1 else if k=6 then 1 else 0
def eP (k:Int):Int:=if k=1 then 1 else if k=2 then 7 else if k=6 then 3 else 0
def dZ (t:PT):Bool:=cG t.k 1 6&&decide ((t.len:Int)=fO t.k)&&cG t.n (eH t.k) (eP t.k)
def cP:PT->Nat->Bool
 | _,0=>false
 | .n0 k n,_+1=>dZ (.n0 k n)
 | .n1 k n a,d+1=>dZ (.n1 k n a)&&cP a d
 | .n2 k n a b,d+1=>dZ (.n2 k n a b)&&cP a d&&cP b d
theorem lI (t:PT):cP t 0=false:=by cases t<;>rfl
theorem Ag {t:PT}(h:dZ t=false):cP t (d+1)=false:=by
 cases t<;>simp[cP,h]
theorem Hy {t:PT}(hi:i<t.len)(h:cP (t.ab i) d=false):cP t (d+1)=false:=by
 cases t with
 | n0 k n=>simp[PT.len]at hi
 | n1 k n a=>simp only[PT.ab]at h;simp[cP,h]
 | n2 k n a b=>
  cases i with
  | zero=>simp only[PT.ab]at h;simp[cP,h]
  | succ i=>simp only[PT.ab]at h;simp[cP,h]
theorem CN {t:PT}(h:dZ t=true)(A:∀i,i<t.len->cP (t.ab i) d=true):cP t (d+1)=true:=by
 cases t with
 | n0 k n=>simpa[cP]using h
 | n1 k n a=>have:=A 0 (by simp[PT.len]);simp only[PT.ab]at this;simp[cP,h,this]
 | n2 k n a b=>
  have h0:=A 0 (by simp[PT.len]);have h1:=A 1 (by simp[PT.len]);simp only[PT.ab]at h0 h1;simp[cP,h,h0,h1]
theorem lA {t:PT}(h:cP t (d+1)=true):dZ t=true/\∀i,i<t.len->cP (t.ab i) d=true:=by
 cases t with
 | n0 k n=>exact⟨by simpa[cP]using h,fun i hi=>by simp[PT.len]at hi⟩
 | n1 k n a=>
  simp only[cP,Fj]at h;exact⟨h.1,fun i _=>h.2⟩
 | n2 k n a b=>
  simp only[cP,Fj]at h;refine⟨h.1.1,fun i _=>?_⟩;cases i
  ·exact h.1.2
  ·exact h.2
theorem N9 {t:PT}(h:cP t d=true):cP t (d+1)=true:=by
 induction d generalizing t with
 | zero=>rw[lI]at h;cases h
 | succ d ih=>exact CN (lA h).1 fun i hi=>ih ((lA h).2 i hi)
open Go.Extern.Stop Go.Stop Go.Extern
theorem MP (v:tK)(w:tJ):(Df #[.iface 327 v]).run fM w=.ok (.iface 261 (.agg #[.pointer (some ⟨4,327,none⟩)])) w:=by kernel_rfl
theorem Em (w:tJ):((E8 fun t=>do RW "Comparable" t;(fun a=>tK.bool a.comparable) <$> typeInfo t) #[.agg #[.pointer (some ⟨4,327,none⟩)]]).run fM w=.ok (.bool true) w:=by kernel_rfl
theorem yE (v:tK)(w:tJ):(xU 474 261 v "Comparable").run fM w=.ok (324,v) w:=by kernel_rfl
theorem Pq:(fM.info? 327).map (·.comparable)=some true:=by kernel_rfl
theorem Pr:(fM.info? 362).map (·.size)=some 1:=by kernel_rfl
abbrev gJ (a:tM):tK:= .iface 327 (.pointer (some a))
theorem zI (a:tM)(w:tJ):
  tL fM 139 #[gJ a,gJ a] w fun e w'=>e=.returned (.bool true)/\w'=w:=by
 obtain⟨i,hi,A⟩:=Fl.1 Pq;obtain⟨j,D,G⟩:=Fl.1 Pr;have h8:=@tN fM 192 _ Df Tryz.func192 (by kernel_rfl) (by kernel_rfl) (by kernel_rfl) (by kernel_rfl);have I:=@tN fM 324 _ (E8 fun t=>do RW "Comparable" t;pure (.bool (<- typeInfo t).comparable)) Tryz.func324 (by kernel_rfl) (by kernel_rfl) (by kernel_rfl) (by kernel_rfl);have J:=MP;have M:=Em;have L:=yE;have H:=run_eql_iface_ptr_same (P:=fM) w a iP Tryz.underlying327 hi A D;go_enter qV,mO
 go_wp2
 refine wp_loop_rounds 1 ?_;rw[rounds_succ]
 go_wp2
 go_ret;exact⟨rfl,rfl⟩
theorem vM (b:tM)(w:tJ):
  tL fM 139 #[.nilIface,gJ b] w fun e w'=>e=.returned (.bool false)/\w'=w:=by
 have hn:=run_eql_iface_nil_left (P:=fM) w 327 (.pointer (some b)) iP;go_enter qV,mO
 go_wp2
 go_ret;exact⟨rfl,rfl⟩
open Go.Shelf
theorem OR (i:Nat)(h:i<100):(ByteArray.mk (Lib.decDigits i).toArray).size<=2:=by
 show (Lib.decDigits i).toArray.size<=2
 by_cases h1:i<10
 ·rw[Lib.decDigits_one h1];simp
 ·rw[Lib.decDigits_two h1 h];simp
theorem wR {n:Int}(h0:0<=n)(A:n<=99)(w:tJ):tL fM 303 #[.int .i64 n] w fun e w'=>(∃s:ByteArray,e=.returned (.string s)/\s.size<=2)/\w'=w:=by
 obtain⟨i,rfl⟩:=Int.eq_ofNat_of_zero_le h0;refine (Any.strconv_Itoa_small itoU i (by omega) w).mono ?_;rintro e w' ⟨rfl,rfl⟩;exact⟨⟨_,rfl,OR i (by omega)⟩,rfl⟩
abbrev Rf (s:ByteArray)(a b c:Int):tK:= .agg #[.string s,.int .i64 a,.int .i64 b,.int .i64 c]
def nC (k:Int)(F:Nat):Prop:=∀(n:Int)(w:tJ),0<=n->n<=99->tL fM F #[.int .i64 n] w fun e w'=>(∃s,e=.returned (Rf s (fO k) (eH k) (eP k)))/\C5 w.heap.size w w'
theorem NR:nC 1 302:=fun n w h0 A=>by
 go_enter oW,Tryz.ntmps302;go_wp2_with fail;refine (wR h0 A _).mono ?_;rintro e w1 ⟨⟨s,rfl,hs⟩,rfl⟩;have D:¬(9223372036854775807<2+s.size):=by omega
 go_wp2_with fail;refine sD (by simp[results,Tryz.results302,go_sem];try rfl) rfl ?_;exact⟨⟨_,rfl⟩,aH (AP _ _) _⟩
theorem JM:nC 2 316:=fun n w h0 A=>by
 go_enter oU,Tryz.ntmps316;go_wp2_with fail;refine (wR h0 A _).mono ?_;rintro e w1 ⟨⟨s,rfl,hs⟩,rfl⟩;have D:¬(9223372036854775807<4+s.size):=by omega
 go_wp2_with fail;refine sD (by simp[results,Tryz.results316,go_sem];try rfl) rfl ?_;exact⟨⟨_,rfl⟩,aH (AP _ _) _⟩
theorem LM:nC 6 320:=fun n w h0 A=>by
 go_enter nA,Tryz.ntmps320;go_wp2_with fail;refine (wR h0 A _).mono ?_;rintro e w1 ⟨⟨s,rfl,hs⟩,rfl⟩;have D:¬(9223372036854775807<3+s.size):=by omega
 go_wp2_with fail;refine sD (by simp[results,Tryz.results320,go_sem];try rfl) rfl ?_;exact⟨⟨_,rfl⟩,aH (AP _ _) _⟩
theorem JL:nC 3 317:=fun n w _ _=>by
 go_enter nX,Tryz.ntmps317;go_wp2_with fail;refine sD (by simp[results,Tryz.results317,go_sem];try rfl) rfl ?_;exact⟨⟨_,rfl⟩,aH (AP _ _) _⟩
theorem JO:nC 4 318:=fun n w _ _=>by
 go_enter nT,Tryz.ntmps318;go_wp2_with fail;refine sD (by simp[results,Tryz.results318,go_sem];try rfl) rfl ?_;exact⟨⟨_,rfl⟩,aH (AP _ _) _⟩
theorem JN:nC 5 319:=fun n w _ _=>by
 go_enter nB,Tryz.ntmps319;go_wp2_with fail;refine sD (by simp[results,Tryz.results319,go_sem];try rfl) rfl ?_;exact⟨⟨_,rfl⟩,aH (AP _ _) _⟩
structure pX (k:Int)(T F:Nat):Prop where
 shape:nC k F
 meth:∀(v:tK)(w:tJ),(xU 474 T v "loop.example/tideline/impl.shape").run fM w=.ok (F,v) w
 enters:∀args w,(callFunc F args).run fM w=.ok (.enter F args) w
 kind:∀(n:Int)(s:tK)(w:tJ),tL fM 191 #[pl k n s] w fun e w'=>e=.returned (.tuple #[.iface T (.int .i64 n),.nilIface])/\C5 w.heap.size w w'
theorem rF (w:tJ)(k n:Int)(s:tK):Bk (w.alloc (.cells #[.int .i64 k,.int .i64 n,s] 25)) w.heap.size #[.int .i64 k,.int .i64 n,s] 25:=Bk.new _ _ rfl
theorem Bk.aR {k:Nat}{G D A:tK}(h:Bk w k #[G,D,A] t):w.cell? ⟨k,0,none⟩=some G/\w.cell? ⟨k,1,none⟩=some D/\w.cell? ⟨k,2,none⟩=some A:=by
 unfold Bk at h;simp[Qz,h]
theorem Oh:pX 1 172 302 where
 shape:=NR
 meth:=fun v w=>by kernel_rfl
 enters:=Re oW (by kernel_rfl) rfl
 kind:=fun n s w=>by
  obtain⟨G,D,A⟩:=(rF w 1 n s).aR;go_enter gM,gD;go_wp2_with fail;refine sD (by simp[results,fQ,go_sem];try rfl) rfl ?_;exact⟨rfl,aH (AP _ _) _⟩
theorem KZ:pX 2 173 316 where
 shape:=JM
 meth:=fun v w=>by kernel_rfl
 enters:=Re oU (by kernel_rfl) rfl
 kind:=fun n s w=>by
  obtain⟨G,D,A⟩:=(rF w 2 n s).aR;go_enter gM,gD;go_wp2_with fail;refine sD (by simp[results,fQ,go_sem];try rfl) rfl ?_;exact⟨rfl,aH (AP _ _) _⟩
theorem KY:pX 3 175 317 where
 shape:=JL
 meth:=fun v w=>by kernel_rfl
 enters:=Re nX (by kernel_rfl) rfl
 kind:=fun n s w=>by
  obtain⟨G,D,A⟩:=(rF w 3 n s).aR;go_enter gM,gD;go_wp2_with fail;refine sD (by simp[results,fQ,go_sem];try rfl) rfl ?_;exact⟨rfl,aH (AP _ _) _⟩
theorem Kb:pX 4 177 318 where
 shape:=JO
 meth:=fun v w=>by kernel_rfl
 enters:=Re nT (by kernel_rfl) rfl
 kind:=fun n s w=>by
  obtain⟨G,D,A⟩:=(rF w 4 n s).aR;go_enter gM,gD;go_wp2_with fail;refine sD (by simp[results,fQ,go_sem];try rfl) rfl ?_;exact⟨rfl,aH (AP _ _) _⟩
theorem Ka:pX 5 178 319 where
 shape:=JN
 meth:=fun v w=>by kernel_rfl
 enters:=Re nB (by kernel_rfl) rfl
 kind:=fun n s w=>by
  obtain⟨G,D,A⟩:=(rF w 5 n s).aR;go_enter gM,gD;go_wp2_with fail;refine sD (by simp[results,fQ,go_sem];try rfl) rfl ?_;exact⟨rfl,aH (AP _ _) _⟩
theorem Mf:pX 6 180 320 where
 shape:=LM
 meth:=fun v w=>by kernel_rfl
 enters:=Re nA (by kernel_rfl) rfl
 kind:=fun n s w=>by
  obtain⟨G,D,A⟩:=(rF w 6 n s).aR;go_enter gM,gD;go_wp2_with fail;refine sD (by simp[results,fQ,go_sem];try rfl) rfl ?_;exact⟨rfl,aH (AP _ _) _⟩
theorem Kd (A:tM)(k n:Int)(s:tK)(w:tJ)(S:k<1\/6<k)(hg:w.cell? ⟨0,0,none⟩=some (gJ A)):tL fM 191 #[pl k n s] w fun e w'=>e=.returned (.tuple #[.nilIface,gJ A])/\C5 w.heap.size w w':=by
 obtain⟨J,I,H⟩:=(rF w k n s).aR;have n1:(k==1)=false:=by simp;omega
 have n2:(k==2)=false:=by simp;omega
 have R:(k==3)=false:=by simp;omega
 have O:(k==4)=false:=by simp;omega
 have M:(k==5)=false:=by simp;omega
 have L:(k==6)=false:=by simp;omega
 have G:=cB (aH (AP w.heap.size w) (.cells #[.int .i64 k,.int .i64 n,s] 25)) hg;go_enter gM,gD;go_wp2_with fail
 go_quiet (fail)
 have D:=cB (dV (aH (AP w.heap.size w) (.cells #[.int .i64 k,.int .i64 n,s] 25)) nq) hg;go_wp2_with fail;refine sD (by simp[results,fQ,go_sem];try rfl) rfl ?_;exact⟨rfl,dV (aH (AP _ _) _) _⟩
theorem Bk.dg {k:Nat}{H G D A:tK}(h:Bk w k #[H,G,D,A] t):w.cell? ⟨k,0,none⟩=some H/\w.cell? ⟨k,1,none⟩=some G/\w.cell? ⟨k,2,none⟩=some D/\w.cell? ⟨k,3,none⟩=some A:=by
 unfold Bk at h;simp[Qz,h]
abbrev Hv:tK:= .agg #[.nilIface,.slice none 0 0]
theorem BX (O:tM){T F:Nat}{t:PT}(H:pX t.k T F)(hn:0<=t.n/\t.n<=99)(hs:dN B w t s)(hg:w.cell? ⟨0,0,none⟩=some (gJ O))
  (Y:4<deep\/(¬4<deep/\¬(t.len:Int)=fO t.k)\/(¬4<deep/\(t.len:Int)=fO t.k/\t.n<eH t.k)\/(¬4<deep/\(t.len:Int)=fO t.k/\¬t.n<eH t.k/\eP t.k<t.n)):
  tL fM 138 #[pl t.k t.n s,.int .i64 deep] w fun e w'=>e=.returned (.tuple #[Hv,gJ O])/\C5 w.heap.size w w':=by
 obtain⟨a,c,rfl⟩:=hs.sl;have HS:=(show Hid (nC t.k F) from H.shape);have HK:=(show Hid _ from H.kind);have x5:=H.meth;have x7:=H.enters;have Z:Bk ((w.alloc (.cells #[.int .i64 t.k,.int .i64 t.n,.slice a t.len c] 25)).alloc (.cells #[.nilIface,.slice none 0 0] 161)) w.heap.size #[.int .i64 t.k,.int .i64 t.n,.slice a t.len c] 25:=(Bk.new _ _ rfl).alloc _;have bR:Bk ((w.alloc (.cells #[.int .i64 t.k,.int .i64 t.n,.slice a t.len c] 25)).alloc (.cells #[.nilIface,.slice none 0 0] 161)) (w.heap.size+1) #[.nilIface,.slice none 0 0] 161:=Bk.new _ _ (by simp);have R:C5 w.heap.size w ((w.alloc (.cells #[.int .i64 t.k,.int .i64 t.n,.slice a t.len c] 25)).alloc (.cells #[.nilIface,.slice none 0 0] 161)):=aH (aH (AP _ _) _) _;clear hs H;obtain⟨x0,x1,x2⟩:=Z.aR;go_enter iM,gX;go_wp2_with fail;generalize ((w.alloc (.cells #[.int .i64 t.k,.int .i64 t.n,.slice a t.len c] 25)).alloc (.cells #[.nilIface,.slice none 0 0] 161))=W0 at*;refine (HK.out t.n _ _).mono ?_;rintro e w1 ⟨rfl,I⟩;have V:=Z.keep I;have S:=bR.keep I;have L:=aG R I;clear x0 x1 x2 Z bR R I;go_wp2_with fail;refine (HS.out t.n _ hn.1 hn.2).mono ?_;rintro e A ⟨⟨sx,rfl⟩,G⟩;have bS:Bk (A.alloc (.cells #[.string sx,.int .i64 (fO t.k),.int .i64 (eH t.k),.int .i64 (eP t.k)] 217)) A.heap.size #[.string sx,.int .i64 (fO t.k),.int .i64 (eH t.k),.int .i64 (eP t.k)] 217:=Bk.new _ _ rfl;have D:C5 A.heap.size A (A.alloc (.cells #[.string sx,.int .i64 (fO t.k),.int .i64 (eH t.k),.int .i64 (eP t.k)] 217)):=aH (AP _ _) _;have U:=(V.keep G).keep D;have M:=(S.keep G).keep D;have J:=aG (aG L G) D;have x6:=cB J hg;clear G D V S L x5 x7
 go_upto_region 5 with fail
 generalize (A.alloc (.cells #[.string sx,.int .i64 (fO t.k),.int .i64 (eH t.k),.int .i64 (eP t.k)] 217))=W3 at*;generalize A.heap.size=sb at*;obtain⟨x0,x1,x2⟩:=U.aR;obtain⟨s0,s1,s2,s3⟩:=bS.dg;obtain⟨r0,r1,f0,f1⟩:=M.two;have bo:=(M.ai .nilIface (.slice none 0 0)).drew;have x8:C5 w.heap.size w ((W3.setCell ⟨w.heap.size+1,0,none⟩ .nilIface).setCell ⟨w.heap.size+1,1,none⟩ (.slice none 0 0)).drew:=((J.setCell (by simp) _).setCell (by simp) _).drew;obtain⟨y0,y1,_,_⟩:=bo.two;have z0:W3.drew.cell? ⟨0,0,none⟩=some (gJ O):=x6;clear U bS M bo HS HK
 rcases Y with h1|⟨h1,h2⟩|⟨h1,h2,h3⟩|⟨h1,h2,h3,h4⟩
 all_goals
  go_wp2_with fail
  go_region
  go_wp2_with fail;refine sD (v:= .tuple #[Hv,gJ O]) (by simp[results,gQ,go_sem,y0,y1];try rfl) rfl ?_;exact⟨rfl,x8⟩
def kT (k:Int):Nat:=if k=1 then 172 else if k=2 then 173 else if k=3 then 175 else if k=4 then 177 else if k=5 then 178 else 180
theorem Ho {k:Int}(h:cG k 1 6=true):∃F,pX k (kT k) F:=by
 have h2:1<=k/\k<=6:=by simpa[cG]using h
 have:k=1\/k=2\/k=3\/k=4\/k=5\/k=6:=by omega
 rcases this with rfl|rfl|rfl|rfl|rfl|rfl
 ·exact⟨_,Oh⟩
 ·exact⟨_,KZ⟩
 ·exact⟨_,KY⟩
 ·exact⟨_,Kb⟩
 ·exact⟨_,Ka⟩
 ·exact⟨_,Mf⟩
abbrev dQ (t:PT):tK:= .iface (kT t.k) (.int .i64 t.n)
def iU (p:Nat->Prop)(w:tJ):PT->tK->Prop
 | .n0 _ _,s=>∃a c,s=.slice a 0 c
 | .n1 _ _ x,s=>∃g c sx,s=.slice (some ⟨g,0,none⟩) 1 c/\p g/\w.cell? ⟨g,0,none⟩=some (dQ x)/\w.cell? ⟨g,1,none⟩=some sx/\iU p w x sx
 | .n2 _ _ x y,s=>∃g c sx sy,s=.slice (some ⟨g,0,none⟩) 2 c/\p g/\w.cell? ⟨g,0,none⟩=some (dQ x)/\w.cell? ⟨g,1,none⟩=some sx/\w.cell? ⟨g,2,none⟩=some (dQ y)/\w.cell? ⟨g,3,none⟩=some sy/\iU p w x sx/\iU p w y sy
theorem iU.sl {p:Nat->Prop}{t:PT}(h:iU p w t s):∃a c,s=.slice a t.len c:=by
 cases t with
 | n0 k n=>obtain⟨a,c,rfl⟩:=h;exact⟨_,_,rfl⟩
 | n1 k n x=>obtain⟨g,c,sx,rfl,_⟩:=h;exact⟨_,_,rfl⟩
 | n2 k n x y=>obtain⟨g,c,sx,sy,rfl,_⟩:=h;exact⟨_,_,rfl⟩
theorem eX (e:w'.heap[g]?=w.heap[g]?)(h:w.cell? ⟨g,i,none⟩=some v):w'.cell? ⟨g,i,none⟩=some v:=by
 rw[Nk (w:=w) e];exact h
theorem iU.move {p q:Nat->Prop}{w w':tJ}(H:∀g,p g->g<w.heap.size->q g/\w'.heap[g]?=w.heap[g]?):∀{t:PT}{s:tK},iU p w t s->iU q w' t s
 | .n0 _ _,_,h=>h
 | .n1 _ _ _,_,⟨g,c,sx,e,hp,h1,h2,h3⟩=>⟨g,c,sx,e,(H g hp (lC h1)).1,eX (H g hp (lC h1)).2 h1,eX (H g hp (lC h1)).2 h2,iU.move H h3⟩
 | .n2 _ _ _ _,_,⟨g,c,sx,sy,e,hp,h1,h2,h3,h4,h5,h6⟩=>⟨g,c,sx,sy,e,(H g hp (lC h1)).1,eX (H g hp (lC h1)).2 h1,eX (H g hp (lC h1)).2 h2,eX (H g hp (lC h1)).2 h3,eX (H g hp (lC h1)).2 h4,iU.move H h5,iU.move H h6⟩
abbrev AH (ps:List (tK×tK)):List tK:=ps.flatMap fun p=>[p.1,p.2]
theorem QB {p q:Nat->Prop}{t:PT}{sl:tK}{ps:List (tK×tK)}(ho:w.ownsRow B 161 2 sl t.len (AH ps))(hl:ps.length=t.len)
  (H:∀j a s,ps[j]?=some (a,s)->a=dQ (t.ab j)/\iU p w (t.ab j) s) (hq:∀g,B<=g->q g) (J:∀g,p g->q g):iU q w t sl:=by
 have hm:∀{x:PT}{s:tK},iU p w x s->iU q w x s:=iU.move fun g h _=>⟨J g h,rfl⟩;have L:=ho;obtain⟨_,⟨rfl,h0⟩|⟨g,A,O,rfl,hg,_⟩⟩:=ho
 ·cases t with
  | n0 k n=>exact⟨_,_,rfl⟩
  | n1 k n x=>simp[PT.len]at h0
  | n2 k n x y=>simp[PT.len]at h0
 ·have ha:=fun i (hi:i<t.len*2)=>L.cellAt i hi;cases t with
  | n0 k n=>exact⟨_,_,rfl⟩
  | n1 k n x=>
   obtain⟨⟨a,s⟩,rfl⟩:∃z,ps=[z]:=by
    match ps,hl with
    | [z],_=>exact⟨z,rfl⟩
   obtain⟨e,G⟩:=H 0 a s rfl;refine⟨g,A,s,rfl,hq g hg,?_,?_,hm G⟩
   ·rw[ha 0 (by simp[PT.len])];simp[e,PT.ab]
   ·rw[ha 1 (by simp[PT.len])];simp
  | n2 k n x y=>
   obtain⟨⟨a,s⟩,⟨b,s'⟩,rfl⟩:∃z D,ps=[z,D]:=by
    match ps,hl with
    | [z,D],_=>exact⟨z,D,rfl⟩
   obtain⟨e,G⟩:=H 0 a s rfl;obtain⟨M,I⟩:=H 1 b s' rfl;refine⟨g,A,s,s',rfl,hq g hg,?_,?_,?_,?_,hm G,hm I⟩
   ·rw[ha 0 (by simp[PT.len])];simp[e,PT.ab]
   ·rw[ha 1 (by simp[PT.len])];simp
   ·rw[ha 2 (by simp[PT.len])];simp[M,PT.ab]
   ·rw[ha 3 (by simp[PT.len])];simp
theorem PG {P:Program}{z:tK}{a b:Nat}(h:(P.info? t).map (fun i=>(i.zero,i.size,i.bytes))=some (some z,a,b)):∃i,P.info? t=some i/\i.zero=some z/\i.size=a/\i.bytes=b:=by
 obtain⟨i,hi,A⟩:=Fl.1 h;simp only[Prod.mk.injEq]at A;exact⟨i,hi,A.1,A.2.1,A.2.2⟩
theorem R9:(fM.info? 161).map (fun i=>(i.zero,i.size,i.bytes))=some (some (.agg #[.nilIface,.slice none 0 0]),2,40):=by kernel_rfl
theorem PH {x y:tK}(h:Bk w g #[x,y] t):∀j u,[x,y][j]?=some u->w.cell? ((⟨g,0,none⟩:tM).add j)=some u:=by
 intro j u A;have e:(⟨g,0,none⟩:tM).add j=⟨g,j,none⟩:=by simp[tM.add];exact fun h=>h.symm
 rw[e];unfold Bk at h;simp[Qz,h,A]
section
variable {ops:Array Oper}{rest:List Oper}{o:Oper}{a:Act}{Q:Exit->Act->tJ->Prop}
theorem RR (w:tJ)(T:o.guard=none)(s x:Operand)(ho:o.op=.call { callee:= .builtin .append,args:=#[s,x],argTypes:=#[159,159] })
  (A:Nat) (v:tK) (ps:List (tK×tK)) (hs:a.eval s=v) (J:w.ownsRow A 161 2 v ps.length (AH ps)) (L:Nat) (H:TypeId) (I:tK) (b:Option tM) (n c:Nat) (hx:a.eval x=.slice (some ⟨L,0,none⟩) 1 1)
  (U:Bk w L #[.iface H I,.slice b n c] 161) (hl:ps.length<=2000000) (G:A<=w.heap.size)
  (h:∀g D w',w'.ownsRow A 161 2 (.slice (some ⟨g,0,none⟩) (ps.length+1) D) (ps.length+1) (AH (ps++[(.iface H I,.slice b n c)]))->w.grownBy w' v.ownBlock->(v.ownBlock=some g\/g=w.heap.size)->g<w'.heap.size->wpList fM ops Q rest (a.put o.dst (.slice (some ⟨g,0,none⟩) (ps.length+1) D)) w'):
  wpList fM ops Q (o::rest) a w:=by
 obtain⟨i0,hi,R,O,M⟩:=PG R9;refine wpList_append_lies w T s x 159 ho A 161 i0 _ 2 40 Tryz.underlying159 hi R O M rfl (by decide) v ps.length (AH ps) hs J ⟨L,0,none⟩ 1 1 [.iface H I,.slice b n c] hx rfl (PH U) (fun u S=>by simp at S;rcases S with rfl|rfl<;>rfl) (by omega) (by unfold maxLen;omega) (by omega) G w.heap.size rfl ?_
 intro g D w' h1 h2 h3 h4;refine h g D w' ?_ h2 h3 h4
 show w'.ownsRow _ _ _ _ _ (AH _)
 simp only[AH,List.flatMap_append]at h1 ⊢
 simpa using h1
end
theorem AA (G:tM){k n:Int}(J:∃a m c,s=.slice a m c)(Z:k<1\/6<k)(hg:w.cell? ⟨0,0,none⟩=some (gJ G)):
  tL fM 138 #[pl k n s,.int .i64 deep] w fun e w'=>e=.returned (.tuple #[Hv,gJ G])/\C5 w.heap.size w w':=by
 obtain⟨a,m,c,rfl⟩:=J;have R:Bk ((w.alloc (.cells #[.int .i64 k,.int .i64 n,.slice a m c] 25)).alloc (.cells #[.nilIface,.slice none 0 0] 161)) w.heap.size #[.int .i64 k,.int .i64 n,.slice a m c] 25:=(Bk.new _ _ rfl).alloc _;have O:Bk ((w.alloc (.cells #[.int .i64 k,.int .i64 n,.slice a m c] 25)).alloc (.cells #[.nilIface,.slice none 0 0] 161)) (w.heap.size+1) #[.nilIface,.slice none 0 0] 161:=Bk.new _ _ (by simp);have D:C5 w.heap.size w ((w.alloc (.cells #[.int .i64 k,.int .i64 n,.slice a m c] 25)).alloc (.cells #[.nilIface,.slice none 0 0] 161)):=aH (aH (AP _ _) _) _;have L:=cB D hg;obtain⟨Y,V,U⟩:=R.aR;go_enter iM,gX;go_wp2_with fail;generalize ((w.alloc (.cells #[.int .i64 k,.int .i64 n,.slice a m c] 25)).alloc (.cells #[.nilIface,.slice none 0 0] 161))=W0 at*;refine (Kd G k n _ _ Z L).mono ?_;rintro e w1 ⟨rfl,A⟩;have H:=O.keep A;have I:=aG D A;clear Y V U R O D A;obtain⟨r0,r1,f0,f1⟩:=H.two;have bo:=(H.ai .nilIface (.slice none 0 0));have M:C5 w.heap.size w ((w1.setCell ⟨w.heap.size+1,0,none⟩ .nilIface).setCell ⟨w.heap.size+1,1,none⟩ (.slice none 0 0)):=((I.setCell (by simp) _).setCell (by simp) _);obtain⟨T,S,_,_⟩:=bo.two;go_wp2_with fail;refine sD (v:= .tuple #[Hv,gJ G]) (by simp[results,gQ,go_sem,T,S];try rfl) rfl ?_;exact⟨rfl,M⟩
theorem QQ (n:Int)(w:tJ):(xV (.iface 172 (.int .i64 n)) 158 172 true).run fM w=.ok (.tuple #[.int .i64 n,.bool true]) w:=by kernel_rfl
theorem QR (n:Int)(w:tJ):(xV (.iface 173 (.int .i64 n)) 158 172 true).run fM w=.ok (.tuple #[.int .i64 0,.bool false]) w:=by kernel_rfl
theorem QS (n:Int)(w:tJ):(xV (.iface 173 (.int .i64 n)) 158 173 true).run fM w=.ok (.tuple #[.int .i64 n,.bool true]) w:=by kernel_rfl
theorem QT (n:Int)(w:tJ):(xV (.iface 175 (.int .i64 n)) 158 172 true).run fM w=.ok (.tuple #[.int .i64 0,.bool false]) w:=by kernel_rfl
theorem QU (n:Int)(w:tJ):(xV (.iface 175 (.int .i64 n)) 158 173 true).run fM w=.ok (.tuple #[.int .i64 0,.bool false]) w:=by kernel_rfl
theorem QV (n:Int)(w:tJ):(xV (.iface 175 (.int .i64 n)) 158 175 true).run fM w=.ok (.tuple #[.int .i64 n,.bool true]) w:=by kernel_rfl
theorem QW (n:Int)(w:tJ):(xV (.iface 177 (.int .i64 n)) 158 172 true).run fM w=.ok (.tuple #[.int .i64 0,.bool false]) w:=by kernel_rfl
theorem QX (n:Int)(w:tJ):(xV (.iface 177 (.int .i64 n)) 158 173 true).run fM w=.ok (.tuple #[.int .i64 0,.bool false]) w:=by kernel_rfl
theorem QY (n:Int)(w:tJ):(xV (.iface 177 (.int .i64 n)) 158 175 true).run fM w=.ok (.tuple #[.int .i64 0,.bool false]) w:=by kernel_rfl
theorem QZ (n:Int)(w:tJ):(xV (.iface 177 (.int .i64 n)) 158 177 true).run fM w=.ok (.tuple #[.int .i64 n,.bool true]) w:=by kernel_rfl
theorem Qa (n:Int)(w:tJ):(xV (.iface 178 (.int .i64 n)) 158 172 true).run fM w=.ok (.tuple #[.int .i64 0,.bool false]) w:=by kernel_rfl
theorem Qb (n:Int)(w:tJ):(xV (.iface 178 (.int .i64 n)) 158 173 true).run fM w=.ok (.tuple #[.int .i64 0,.bool false]) w:=by kernel_rfl
theorem Qc (n:Int)(w:tJ):(xV (.iface 178 (.int .i64 n)) 158 175 true).run fM w=.ok (.tuple #[.int .i64 0,.bool false]) w:=by kernel_rfl
theorem Qd (n:Int)(w:tJ):(xV (.iface 178 (.int .i64 n)) 158 177 true).run fM w=.ok (.tuple #[.int .i64 0,.bool false]) w:=by kernel_rfl
theorem Qe (n:Int)(w:tJ):(xV (.iface 178 (.int .i64 n)) 158 178 true).run fM w=.ok (.tuple #[.int .i64 n,.bool true]) w:=by kernel_rfl
theorem Qf (n:Int)(w:tJ):(xV (.iface 180 (.int .i64 n)) 158 172 true).run fM w=.ok (.tuple #[.int .i64 0,.bool false]) w:=by kernel_rfl
theorem Qg (n:Int)(w:tJ):(xV (.iface 180 (.int .i64 n)) 158 173 true).run fM w=.ok (.tuple #[.int .i64 0,.bool false]) w:=by kernel_rfl
theorem Qh (n:Int)(w:tJ):(xV (.iface 180 (.int .i64 n)) 158 175 true).run fM w=.ok (.tuple #[.int .i64 0,.bool false]) w:=by kernel_rfl
theorem Qi (n:Int)(w:tJ):(xV (.iface 180 (.int .i64 n)) 158 177 true).run fM w=.ok (.tuple #[.int .i64 0,.bool false]) w:=by kernel_rfl
theorem Qj (n:Int)(w:tJ):(xV (.iface 180 (.int .i64 n)) 158 178 true).run fM w=.ok (.tuple #[.int .i64 0,.bool false]) w:=by kernel_rfl
theorem Qk (n:Int)(w:tJ):(xV (.iface 180 (.int .i64 n)) 158 180 true).run fM w=.ok (.tuple #[.int .i64 n,.bool true]) w:=by kernel_rfl
def EI (ea:tM)(t:PT)(d:Nat)(w:tJ)(e:Ending)(w':tJ):Prop:=
 ((cP t d=true/\∃a n c,e=.returned (.tuple #[.agg #[dQ t,.slice a n c],.nilIface])/\iU (fun g=>w.heap.size<=g) w' t (.slice a n c))\/(cP t d=false/\e=.returned (.tuple #[Hv,gJ ea])))/\C5 w.heap.size w w'
structure RJ (ea:tM)(t:PT)(d:Nat)(w:tJ)(b9 k:Nat)(s:tK)(wr:tJ):Prop where
 le:k<=t.len
 ps:∃sl ps,ps.length=k/\Bk wr b9 #[dQ t,sl] 161/\wr.ownsRow (b9+1) 161 2 sl k (AH ps)/\(∀j a x,ps[j]?=some (a,x)->a=dQ (t.ab j)/\iU (fun g=>b9<g/\sl.ownBlock≠some g) wr (t.ab j) x)
 pok:∀j,j<k->cP (t.ab j) d=true
 box:Bk wr (w.heap.size+1) #[.nilIface,.slice none 0 0] 161
 nine:w.heap.size+1<b9
 bel:C5 w.heap.size w wr
theorem PT.cd (t:PT):t.len<=2:=by cases t<;>simp[PT.len]
theorem AG {w1:tJ}{e:TypeId}{s:Nat}{n:Nat}{xs:List tK}(h:w.ownsRow B e s v n xs)(H:∀k,B<=k->k<w.heap.size->w1.heap[k]?=w.heap[k]?):w1.ownsRow B e s v n xs:=by
 obtain⟨h1,h2⟩:=h;refine⟨h1,?_⟩
 rcases h2 with h2|⟨g,G,D,rfl,hg,A,r⟩
 ·exact .inl h2
 ·exact .inr ⟨g,G,D,rfl,hg,by rw[H g hg (lt_of_block A)];exact A,r⟩
theorem qJ {c:Array tK}{A:Option Nat}(h:Bk w g c t)(hg:w.grownBy w' A)(hr:A≠some g):Bk w' g c t:=by
 unfold Bk;rw[hg.block g h.lt (fun e=>hr e.symm)];exact h
theorem Mv {ea:tM}{t:PT}{A k:Nat}{wr O L:tJ}{sl:tK}{ps:List (tK×tK)}{b:Option tM}{m c I:Nat}(y2:k<t.len)(R:ps.length=k)(T:Bk wr A #[dQ t,sl] 161)(Y:wr.ownsRow (A+1) 161 2 sl k (AH ps))
  (x2:∀j a x,ps[j]?=some (a,x)->a=dQ (t.ab j)/\iU (fun g=>A<g/\sl.ownBlock≠some g) wr (t.ab j) x) (V:∀j,j<k->cP (t.ab j) d=true) (x5:Bk wr (w.heap.size+1) #[.nilIface,.slice none 0 0] 161) (h9:w.heap.size+1<A) (hb:C5 w.heap.size w wr)
  (H:C5 wr.heap.size wr O) (hk:iU (fun g=>wr.heap.size<=g) O (t.ab k) (.slice b m c)) (hp:cP (t.ab k) d=true) (hn:L.ownsRow (A+1) 161 2 (.slice (some ⟨g,0,none⟩) (k+1) I) (k+1) (AH (ps++[(dQ (t.ab k),.slice b m c)]))) (hg:O.grownBy L sl.ownBlock) (S:sl.ownBlock=some g\/g=O.heap.size):
  RJ ea t d w A (k+1) s (L.setCell ⟨A,1,none⟩ (.slice (some ⟨g,0,none⟩) (k+1) I)):=by
 have G:=Y.lt;have y3:=T.lt;have y1:=H.size;have hne:sl.ownBlock≠some A:=fun e=>by have:=(G _ e).1;omega
 have D:∀x,x≠A->(L.setCell ⟨A,1,none⟩ (.slice (some ⟨g,0,none⟩) (k+1) I)).heap[x]?=L.heap[x]?:=fun x hx=>AW _ _ _ _ (by show _≠_;first|exact hx|exact fun e=>hx e.symm)
 refine⟨by omega,⟨_,ps++[(dQ (t.ab k),.slice b m c)],by simp[R],(qJ (T.keep H) hg hne).set 1 _,AG hn fun x hx _=>D x (by omega),?_⟩,?_,?_,h9,?_⟩
 ·intro j a x J
  rcases Ih j k with h|h
  ·rw[List.getElem?_append_left (by omega)]at J;obtain⟨e,ok⟩:=x2 j a x J;refine⟨e,ok.move fun q hq M=>?_⟩;have U:(tK.slice (some ⟨g,0,none⟩) (k+1) I).ownBlock≠some q:=by
    intro e2;have Z:g=q:=by simpa[tK.ownBlock]using e2
    subst Z
    rcases S with h1|h1
    ·exact hq.2 h1
    ·omega
   refine⟨⟨hq.1,U⟩,?_⟩;rw[D q (by omega),hg.block q (by omega) (fun e=>hq.2 e.symm)];exact H.block q M
  ·have x3:j=k:=by
    have:=(List.getElem?_eq_some_iff.1 J).1;simp at this;omega
   subst x3;rw[List.getElem?_append_right (by omega),R,Nat.sub_self]at J;simp only[List.getElem?_cons_zero,Option.some.injEq,Prod.mk.injEq]at J;obtain⟨rfl,rfl⟩:=J;refine⟨rfl,hk.move fun q hq M=>?_⟩;have U:(tK.slice (some ⟨g,0,none⟩) (j+1) I).ownBlock≠some q:=by
    intro e2;have Z:g=q:=by simpa[tK.ownBlock]using e2
    subst Z
    rcases S with h1|h1
    ·have:=(G _ h1).2;omega
    ·omega
   refine⟨⟨by omega,U⟩,?_⟩;rw[D q (by omega)];exact hg.block q M (fun e=>by have:=(G _ e.symm).2;omega)
 ·intro j J
  rcases Ih j k with h|h
  ·exact V j h
  ·obtain rfl:j=k:=by omega
   exact hp
 ·have b2:=qJ (x5.keep H) hg (fun e=>by have:=(G _ e).1;omega);unfold Bk;rw[D _ (by omega)];exact b2
 ·exact ((aG hb H).grown hg (by have:=hb.size;omega) (fun x e=>by have:=(G _ e).1;omega)).setCell (by show _<=A;omega) _
theorem Gj (ea:tM){F:Nat}{t:PT}(H:pX t.k (kT t.k) F)(hn:0<=t.n/\t.n<=99)(hs:dN B w t s)(hg:w.cell? ⟨0,0,none⟩=some (gJ ea))
  (hh:dZ t=true) (h0:1<=deep) (h4:deep<=4)
  (x6:∀i,i<t.len->∀(W:tJ)(s':tK),dN B W (t.ab i) s'->W.cell? ⟨0,0,none⟩=some (gJ ea)->tL fM 138 #[pl (t.ab i).k (t.ab i).n s',.int .i64 (deep+1)] W (EI ea (t.ab i) d W)):
  tL fM 138 #[pl t.k t.n s,.int .i64 deep] w (EI ea t (d+1) w):=by
 have HR:=(show Hid _ from x6);have HH:=(show Hid _ from hh);have a0:=(show Hid (dN B w t s) from hs);have d7:((t.len:Int)=fO t.k)/\¬t.n<eH t.k/\¬eP t.k<t.n:=by
  simp only[dZ,cG,Fj,decide_eq_true_eq]at hh;exact⟨hh.1.2,by omega,by omega⟩
 obtain⟨h1,h2,h3⟩:=d7;have h5:¬4<deep:=by omega
 obtain⟨a,c,rfl⟩:=hs.sl;have HS:=(show Hid (nC t.k F) from H.shape);have HK:=(show Hid _ from H.kind);have d5:=H.meth;have d8:=H.enters;have bP:Bk ((w.alloc (.cells #[.int .i64 t.k,.int .i64 t.n,.slice a t.len c] 25)).alloc (.cells #[.nilIface,.slice none 0 0] 161)) w.heap.size #[.int .i64 t.k,.int .i64 t.n,.slice a t.len c] 25:=(Bk.new _ _ rfl).alloc _;have bR:Bk ((w.alloc (.cells #[.int .i64 t.k,.int .i64 t.n,.slice a t.len c] 25)).alloc (.cells #[.nilIface,.slice none 0 0] 161)) (w.heap.size+1) #[.nilIface,.slice none 0 0] 161:=Bk.new _ _ (by simp);have w3:C5 w.heap.size w ((w.alloc (.cells #[.int .i64 t.k,.int .i64 t.n,.slice a t.len c] 25)).alloc (.cells #[.nilIface,.slice none 0 0] 161)):=aH (aH (AP _ _) _) _;clear hs H x6 hh;obtain⟨x0,x1,x2⟩:=bP.aR;go_enter iM,gX;go_wp2_with fail;generalize ((w.alloc (.cells #[.int .i64 t.k,.int .i64 t.n,.slice a t.len c] 25)).alloc (.cells #[.nilIface,.slice none 0 0] 161))=W0 at*;refine (HK.out t.n _ _).mono ?_;rintro e w1 ⟨rfl,Z⟩;have w8:=bP.keep Z;have w5:=bR.keep Z;have y6:=aG w3 Z;clear x0 x1 x2 bP bR w3 Z;go_wp2_with fail;refine (HS.out t.n _ hn.1 hn.2).mono ?_;rintro e S ⟨⟨sx,rfl⟩,Y⟩;have bS:Bk (S.alloc (.cells #[.string sx,.int .i64 (fO t.k),.int .i64 (eH t.k),.int .i64 (eP t.k)] 217)) S.heap.size #[.string sx,.int .i64 (fO t.k),.int .i64 (eH t.k),.int .i64 (eP t.k)] 217:=Bk.new _ _ rfl;have V:C5 S.heap.size S (S.alloc (.cells #[.string sx,.int .i64 (fO t.k),.int .i64 (eH t.k),.int .i64 (eP t.k)] 217)):=aH (AP _ _) _;have z4:=(w8.keep Y).keep V;have z3:=(w5.keep Y).keep V;have b5:=aG (aG y6 Y) V;clear Y V w8 w5 y6 d5 d8
 go_upto_region 5 with fail
 generalize (S.alloc (.cells #[.string sx,.int .i64 (fO t.k),.int .i64 (eH t.k),.int .i64 (eP t.k)] 217))=W3 at*;generalize S.heap.size=sb at*;obtain⟨x0,x1,x2⟩:=z4.aR;obtain⟨s0,s1,s2,s3⟩:=bS.dg;have bN:Bk (W3.alloc (.cells #[dQ t,.slice none 0 0] 161)) W3.heap.size #[dQ t,.slice none 0 0] 161:=Bk.new _ _ rfl;have w6:=z4.alloc (.cells #[dQ t,.slice none 0 0] 161);obtain⟨z0,z1,z2⟩:=w6.aR;have w4:=z3.alloc (.cells #[dQ t,.slice none 0 0] 161);have y5:=aH b5 (.cells #[dQ t,.slice none 0 0] 161);have d6:=z3.lt;clear z4 bS z3 HS HK w6;go_wp2_with fail;generalize (W3.alloc (.cells #[dQ t,.slice none 0 0] 161))=W4 at*;generalize W3.heap.size=b9 at*;clear x0 x1 x2 z0 z1 z2 s0 s1 s2 s3
 go_loopw [56] (fun i wr=>∃k:Nat,i=.int .i64 k/\RJ ea t d w b9 k (.slice a t.len c) wr) (fun i _=>t.len-(intOf i).toNat)
 case atStart=>exact⟨0,rfl,M1 _,⟨_,[],rfl,bN,tJ.ownsRow_nil _ _ _ _,fun j a x h=>by simp at h⟩,fun j hj=>absurd hj (by omega),w4,d6,y5⟩
 case round=>
  obtain⟨k,rfl,HI⟩:=hrel;obtain⟨j3,⟨sl,ps,v5,J,x8,v4⟩,x7,I,h9,hb⟩:=HI;have HP:=(show Hid _ from v4);have HO:=(show Hid (wr.ownsRow (b9+1) 161 2 sl k (AH ps)) from x8);have z7:=(show Hid _ from x7);clear x8 v4 x7 bN w4 y5
  by_cases O:k<t.len
  ·have ik:((k:Int)<(t.len:Int)):=by omega
   obtain⟨g,off,sx,rfl,j4,c0,c1,c2,y2,b2,m2,d2,rfl⟩:=(a0.out.keep hb).at O;have bx:=Bk.new (w:=wr) #[.int .i64 (t.ab k).k,.int .i64 (t.ab k).n,.slice b2 m2 d2] 25 rfl;have R:C5 wr.heap.size wr (wr.alloc (.cells #[.int .i64 (t.ab k).k,.int .i64 (t.ab k).n,.slice b2 m2 d2] 25)):=aH (AP _ _) _;have v8:=y2.keep R;have v9:=cB (aG hb R) hg;have a2:=HR.out k O _ _ v8 v9;have a1:=(show Hid _ from a2);have g0:¬(9223372036854775807:Int)<deep+1:=by omega
   obtain⟨q0,q1,q2⟩:=bx.aR;have y4:=aG hb R;clear a2 v8 y2 a0;go_wp2_with fail;refine tL.mono a1.out ?_;rintro e M ⟨v6,y7⟩;have A:C5 wr.heap.size wr M:=aG R y7;have y3:=aG y4 y7;have v3:(wr.alloc (.cells #[.int .i64 (t.ab k).k,.int .i64 (t.ab k).n,.slice b2 m2 d2] 25)).heap.size=wr.heap.size+1:=by simp
   rw[v3]at v6;clear a1 q0 q1 q2 v9 bx R y4 y7 c0 c1 c2 v3
   rcases v6 with⟨hp,G,D,c3,rfl,L⟩|⟨hp,rfl⟩
   ·have H8:Hid (C5 wr.heap.size wr ((M.alloc (.cells #[dQ (t.ab k),.slice G D c3] 161)).alloc (.cells #[dQ (t.ab k),.slice G D c3] 161))):=aH (aH A _) _;have f3:=(Bk.new (w:=M) #[dQ (t.ab k),.slice G D c3] 161 rfl);have e9:=J.keep (aH A (.cells #[dQ (t.ab k),.slice G D c3] 161));have e8:=J.keep H8.out;have b6:Bk ((M.alloc (.cells #[dQ (t.ab k),.slice G D c3] 161)).alloc (.cells #[dQ (t.ab k),.slice G D c3] 161)) (M.heap.size+1) #[dQ (t.ab k),.slice G D c3] 161:=Bk.new _ _ (by simp);have T:=AG HO.out fun x _ hx=>H8.out.block x hx;have x9:iU (fun g=>wr.heap.size<=g) ((M.alloc (.cells #[dQ (t.ab k),.slice G D c3] 161)).alloc (.cells #[dQ (t.ab k),.slice G D c3] 161)) (t.ab k) (.slice G D c3):=L.move fun x hx hl=>⟨by omega,((aH (aH (AP M.heap.size M) (.cells #[dQ (t.ab k),.slice G D c3] 161)) (.cells #[dQ (t.ab k),.slice G D c3] 161))).block x hl⟩;have f8:=(show Hid _ from x9);have j1:=A.size;have j5:=J.lt;have v7:sl.ownBlock≠some b9:=fun e=>by have:=(HO.out.lt _ e).1;omega
    have f7:=(show Hid _ from v7);obtain⟨p0,p1,_,_⟩:=f3.two;obtain⟨q0,q1,_,_⟩:=e9.two;have i9:=PT.cd t;have b3:=v5.symm;subst b3;have f4:=(show Hid _ from T);clear x9 L v7 T
    go_wp2_with (at_builtin;go_must (refine RR _ rfl _ _ rfl (b9+1) _ ps rfl f4.out _ _ _ _ _ _ rfl b6 (by omega) (by simp;omega) ?_);intro g9 i1 w9 b0 U b4 j2;have f2:=qJ e8 U f7.out;obtain⟨y0,y1,f0,f1⟩:=f2.two)
    refine⟨⟨ps.length+1,by go_num,Mv O rfl J HO.out HP.out z7.out I h9 hb H8.out f8.out hp b0 U b4⟩,?_⟩;simp[intOf];omega
   ·have bo:=((I.keep A).alloc (.cells #[.nilIface,.slice none 0 0] 161)).ai .nilIface (.slice none 0 0);have br:=((I.keep A).alloc (.cells #[.nilIface,.slice none 0 0] 161));obtain⟨r0,r1,f0,f1⟩:=br.two;obtain⟨y0,y1,_,_⟩:=bo.two;have HB:Hid (C5 w.heap.size w (((M.alloc (.cells #[.nilIface,.slice none 0 0] 161)).setCell ⟨w.heap.size+1,0,none⟩ .nilIface).setCell ⟨w.heap.size+1,1,none⟩ (.slice none 0 0))):=(((aH y3 _).setCell (by simp) _).setCell (by simp) _);have HX:Hid (cP t (d+1)=false):=Hy O hp;clear bo br y3 A J I;go_wp2_with fail;refine sD (v:= .tuple #[Hv,gJ ea]) (by simp[results,gQ,go_sem,y0,y1];try rfl) rfl ?_;exact⟨.inr ⟨HX.out,rfl⟩,HB.out⟩
  ·obtain rfl:k=t.len:=by omega
   have ik:¬((t.len:Int)<(t.len:Int)):=by omega
   obtain⟨q0,q1,_,_⟩:=J.two;obtain⟨r0,r1,f0,f1⟩:=I.two;have bo:=I.ai (dQ t) sl;obtain⟨y0,y1,_,_⟩:=bo.two;have HB:Hid (C5 w.heap.size w ((wr.setCell ⟨w.heap.size+1,0,none⟩ (dQ t)).setCell ⟨w.heap.size+1,1,none⟩ sl)):=((hb.setCell (by simp) _).setCell (by simp) _);have x5:∀x,x≠w.heap.size+1->((wr.setCell ⟨w.heap.size+1,0,none⟩ (dQ t)).setCell ⟨w.heap.size+1,1,none⟩ sl).heap[x]?=wr.heap[x]?:=fun x hx=>(AW _ _ _ _ hx).trans (AW _ _ _ _ hx);have L:iU (fun g=>w.heap.size<=g) ((wr.setCell ⟨w.heap.size+1,0,none⟩ (dQ t)).setCell ⟨w.heap.size+1,1,none⟩ sl) t sl:=(QB (q:=fun g=>b9<g) HO.out v5 HP.out (fun g h=>h) (fun g h=>h.1)).move fun x hx _=>⟨by omega,x5 x (by omega)⟩;obtain⟨a5,c5,e5⟩:=L.sl;subst e5;have HX:Hid (cP t (d+1)=true):=CN HH.out z7.out;have f6:=(show Hid _ from L);clear bo x5 L HO HP z7 J I hb;go_wp2_with fail;refine sD (v:= .tuple #[.agg #[dQ t,.slice a5 t.len c5],.nilIface]) (by simp[results,gQ,go_sem,y0,y1];try rfl) rfl ?_;exact⟨.inl ⟨HX.out,_,_,_,rfl,f6.out⟩,HB.out⟩
theorem BW (I:tM):∀(d:Nat)(t:PT){B:Nat}{s:tK}{w:tJ}(deep:Int),deep+d=5->d<=4->t.sm->dN B w t s->w.cell? ⟨0,0,none⟩=some (gJ I)->tL fM 138 #[pl t.k t.n s,.int .i64 deep] w (EI I t d w):=by
 intro d
 induction d with
 | zero=>
  intro t B s w deep h1 _ A hs hg;have hp:=lI t
  by_cases D:cG t.k 1 6=true
  ·obtain⟨F,H⟩:=Ho D;refine (BX I H (PT.dh A) hs hg (.inl (by omega))).mono ?_;rintro e w' ⟨rfl,G⟩;exact⟨.inr ⟨hp,rfl⟩,G⟩
  ·have J:t.k<1\/6<t.k:=by simp[cG]at D;omega
   obtain⟨a,c,e⟩:=hs.sl;refine (AA I ⟨a,_,c,e⟩ J hg).mono ?_;rintro e w' ⟨rfl,G⟩;exact⟨.inr ⟨hp,rfl⟩,G⟩
 | succ d ih=>
  intro t B s w deep h1 h4 A hs hg
  by_cases D:cG t.k 1 6=true
  ·obtain⟨F,H⟩:=Ho D;cases L:dZ t
   ·refine (BX I H (PT.dh A) hs hg ?_).mono ?_
    ·have:¬((t.len:Int)=fO t.k/\eH t.k<=t.n/\t.n<=eP t.k):=by
      intro hx;have:dZ t=true:=by simp[dZ,D,hx.1];simp[cG,hx.2.1,hx.2.2]
      rw[L]at this;cases this
     omega
    ·rintro e w' ⟨rfl,G⟩;exact⟨.inr ⟨Ag L,rfl⟩,G⟩
   ·exact Gj I H (PT.dh A) hs hg L (by omega) (by omega) fun i hi W s' M O=>ih (t.ab i) (deep+1) (by omega) (by omega) (PT.di A hi) M O
  ·have J:t.k<1\/6<t.k:=by simp[cG]at D;omega
   obtain⟨a,c,e⟩:=hs.sl;refine (AA I ⟨a,_,c,e⟩ J hg).mono ?_;rintro e w' ⟨rfl,G⟩;exact⟨.inr ⟨Ag (by simp[dZ,D]),rfl⟩,G⟩
theorem A6 (k:Int)(w:tJ):tL fM 226 #[.int .i64 k] w fun e w'=>e=.returned (.tuple #[.int .i64 (fO k),.int .i64 (eH k),.int .i64 (eP k)])/\w'=w:=by
 have D:k=1\/k=2\/k=3\/k=4\/k=5\/k=6\/(k<1\/6<k):=by omega
 go_enter Tryz.func226,Tryz.ntmps226
 rcases D with rfl|rfl|rfl|rfl|rfl|rfl|D
 case inr.inr.inr.inr.inr.inr=>
  have n1:¬k=1:=by omega
  have n2:¬k=2:=by omega
  have I:¬k=3:=by omega
  have H:¬k=4:=by omega
  have G:¬k=5:=by omega
  have A:¬k=6:=by omega
  have M:fO k = -1:=by simp[fO,n1,n2,I,H,G,A]
  have L:eH k=0:=by simp[eH,n2,A]
  have J:eP k=0:=by simp[eP,n1,n2,A]
  clear D;go_wp2_with fail;refine sD (by simp[results,jB,go_sem];try rfl) rfl ?_;exact⟨by rw[M,L,J],rfl⟩
 all_goals
  go_wp2_with fail;refine sD (by simp[results,jB,go_sem];try rfl) rfl ?_;exact⟨rfl,rfl⟩
def Bp (t:PT)(d:Nat)(w:tJ)(e:Ending)(w':tJ):Prop:=e=.returned (.bool (cP t d))/\C5 w.heap.size w w'
theorem F1 {t:PT}(hd:d<=4)(hs:dN B w t s)(G:d<1\/dZ t=false):tL fM 175 #[pl t.k t.n s,.int .i64 d] w fun e w'=>e=.returned (.bool false)/\C5 w.heap.size w w':=by
 have H:Bk (w.alloc (.cells #[.int .i64 t.k,.int .i64 t.n,s] 25)) w.heap.size #[.int .i64 t.k,.int .i64 t.n,s] 25:=Bk.new _ _ rfl;have A:C5 w.heap.size w (w.alloc (.cells #[.int .i64 t.k,.int .i64 t.n,s] 25)):=aH (AP _ _) _;obtain⟨T,S,R⟩:=H.aR;obtain⟨a,c,rfl⟩:=hs.sl;have O:((d:Int)<1)\/(¬(d:Int)<1/\¬(t.len:Int)=fO t.k)\/(¬(d:Int)<1/\(t.len:Int)=fO t.k/\cG t.n (eH t.k) (eP t.k)=false):=by
  rcases G with h|h
  ·exact .inl (by omega)
  ·rcases Ih d 1 with h1|h1
   ·exact .inl (by omega)
   ·by_cases h2:(t.len:Int)=fO t.k
    ·refine .inr (.inr ⟨by omega,h2,?_⟩)
     by_cases D:cG t.k 1 6=true
     ·simp only[dZ,D,h2,decide_true,Bool.true_and,Bool.and_self]at h;exact h
     ·exfalso
      have:fO t.k = -1:=by
       simp[cG]at D;have n1:¬t.k=1:=by omega
       have n2:¬t.k=2:=by omega
       have M:¬t.k=3:=by omega
       have L:¬t.k=4:=by omega
       have J:¬t.k=5:=by omega
       have I:¬t.k=6:=by omega
       simp[fO,n1,n2,M,L,J,I]
      omega
    ·exact .inr (.inl ⟨by omega,h2⟩)
 clear hs G H;go_enter pU,jO;go_wp2_with fail;refine (A6 t.k _).mono ?_;rintro e w1 ⟨rfl,rfl⟩
 rcases O with h1|⟨h1,h2⟩|⟨h1,h2,h3⟩
 ·go_wp2_with fail;go_ret;exact⟨rfl,A⟩
 ·go_wp2_with fail;go_ret;exact⟨rfl,A⟩
 ·go_wp2_with fail;refine (sZ _ _ _ _).mono ?_;rintro e w1 ⟨rfl,rfl⟩;rw[h3];go_wp2_with fail;go_ret;exact⟨rfl,A⟩
theorem Kg {t:PT}(hd:d<=3)(hs:dN B w t s)(I:dZ t=true)
  (D:∀i,i<t.len->∀(W:tJ)(s':tK),dN B W (t.ab i) s'->tL fM 175 #[pl (t.ab i).k (t.ab i).n s',.int .i64 d] W (Bp (t.ab i) d W)):tL fM 175 #[pl t.k t.n s,.int .i64 ((d+1:Nat):Int)] w (Bp t (d+1) w):=by
 have bP:Bk (w.alloc (.cells #[.int .i64 t.k,.int .i64 t.n,s] 25)) w.heap.size #[.int .i64 t.k,.int .i64 t.n,s] 25:=Bk.new _ _ rfl;have J:C5 w.heap.size w (w.alloc (.cells #[.int .i64 t.k,.int .i64 t.n,s] 25)):=aH (AP _ _) _;obtain⟨V,U,T⟩:=bP.aR;have x6:=(show Hid _ from hs.keep J);obtain⟨a,c,rfl⟩:=hs.sl;have HR:=(show Hid _ from D);have HH:=(show Hid _ from I);have Z:((t.len:Int)=fO t.k)/\cG t.n (eH t.k) (eP t.k)=true:=by
  simp only[dZ,Fj,decide_eq_true_eq]at I;exact⟨I.1.2,I.2⟩
 obtain⟨h2,h3⟩:=Z;have y2:=PT.cd t;have M:((d+1:Nat):Int)=(d:Int)+1:=by omega
 have h1:¬((d:Int)+1<1):=by omega
 have y5:((d:Int)+1)-1=(d:Int):=by omega
 rw[M];clear hs D I M;go_enter pU,jO;go_wp2_with fail;refine (A6 t.k _).mono ?_;rintro e w1 ⟨rfl,rfl⟩;go_wp2_with fail;refine (sZ _ _ _ _).mono ?_;rintro e w1 ⟨rfl,rfl⟩;rw[h3];go_wp2_with fail;generalize (w.alloc (.cells #[.int .i64 t.k,.int .i64 t.n,.slice a t.len c] 25))=W0 at*;clear V U T
 go_loopw [8] (fun i wr=>∃k:Nat,i=.int .i64 k/\k<=t.len/\(∀j,j<k->cP (t.ab j) d=true)/\C5 W0.heap.size W0 wr) (fun i _=>t.len-(intOf i).toNat)
 case atStart=>exact⟨0,rfl,M1 _,fun j Y=>absurd Y (by omega),AP _ _⟩
 case round=>
  obtain⟨k,rfl,y3,G,L⟩:=hrel;have R:=(show Hid _ from G);clear G;have x3:=bP.keep L;obtain⟨V,U,T⟩:=x3.aR
  by_cases A:k<t.len
  ·have ik:((k:Int)<(t.len:Int)):=by omega
   obtain⟨g,off,sx,rfl,y4,c0,c1,c2,H,b2,m2,d2,rfl⟩:=(x6.out.keep L).at A;have HC:=(show Hid _ from HR.out k A wr _ H);clear H;go_wp2_with fail;refine tL.mono HC.out ?_;rintro e w7 ⟨rfl,h9⟩;have O:=aG L h9;cases hp:cP (t.ab k) d
   ·have S:Hid (cP t (d+1)=false):=Hy A hp;go_wp2_with fail;go_ret;exact⟨by rw[S.out];rfl,aG J O⟩
   ·have HN:Hid (∀j,j<k+1->cP (t.ab j) d=true):=fun j Y=>by
     rcases Ih j k with h|h
     ·exact R.out j h
     ·obtain rfl:j=k:=by omega
      exact hp
    go_wp2_with fail;go_roundw
    case rel=>exact⟨k+1,by go_num,by omega,HN.out,O⟩
    case measure=>simp[intOf];omega
  ·obtain rfl:k=t.len:=by omega
   have ik:¬((t.len:Int)<(t.len:Int)):=by omega
   have S:Hid (cP t (d+1)=true):=CN HH.out R.out;go_wp2_with fail;go_ret;exact⟨by rw[S.out];rfl,aG J L⟩
theorem Kf:∀(d:Nat)(t:PT){B:Nat}{s:tK}{w:tJ},d<=4->dN B w t s->tL fM 175 #[pl t.k t.n s,.int .i64 d] w (Bp t d w):=by
 intro d
 induction d with
 | zero=>
  intro t B s w hd hs;refine (F1 hd hs (.inl (by omega))).mono ?_;rintro e w' ⟨rfl,D⟩;exact⟨by rw[lI],D⟩
 | succ d ih=>
  intro t B s w hd hs;cases A:dZ t
  ·refine (F1 hd hs (.inr A)).mono ?_;rintro e w' ⟨rfl,D⟩;exact⟨by rw[Ag A],D⟩
  ·exact Kg (by omega) hs A fun i _ W s' G=>ih (t.ab i) (by omega) G
theorem vU {t:PT}(hs:dN B w t s):
  tL fM 102 #[pl t.k t.n s] w fun e w'=>e=.returned (.bool (cP t 4))/\C5 w.heap.size w w':=by
 have G:Bk (w.alloc (.cells #[.int .i64 t.k,.int .i64 t.n,s] 25)) w.heap.size #[.int .i64 t.k,.int .i64 t.n,s] 25:=Bk.new _ _ rfl;have A:C5 w.heap.size w (w.alloc (.cells #[.int .i64 t.k,.int .i64 t.n,s] 25)):=aH (AP _ _) _;obtain⟨L,J,I⟩:=G.aR;have H:=(show Hid _ from Kf 4 t (by omega) (hs.keep A));obtain⟨a,c,rfl⟩:=hs.sl;clear hs G;go_enter Tryz.func102,Tryz.ntmps102;go_wp2_with fail;refine tL.mono H.out ?_;rintro e w1 ⟨rfl,D⟩;go_wp2_with fail;go_ret;exact⟨rfl,aG A D⟩
end Go.Proofs.YtbdpcngcbnoioaaGreatDoor
