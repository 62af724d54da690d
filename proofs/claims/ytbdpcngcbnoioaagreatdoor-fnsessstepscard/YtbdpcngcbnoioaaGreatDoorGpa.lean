import Derived.Test.YtbdpcngcbnoioaaGreatDoorGa4
import Derived.LaidEql
import Derived.Stop.Asserts
import Derived.RowKitTokens
import Derived.Test.YtbdpcngcbnoioaaGreatDoorIta
import Derived.Deep.AppendLies
import Derived.LoopTactic
import Derived.Deep.DeepMust
set_option maxRecDepth 100000
set_option maxHeartbeats 16000000
namespace Go.Proofs.YtbdpcngcbnoioaaGreatDoor
open Go.RowKit
open Go.Proofs.Tryz renaming prog->fD,results191->fH,ntmps191->fV,func191->gY,results138->gZ,ntmps138->iC,func138->jU,underlying163->kR,results226->kX,ntmps175->lI,ntmps139->lY,func320->mF,func319->mJ,func318->nU,func317->oJ,func316->oO,func302->qA,func175->rN,func139->sE
open Go renaming bodyPost_ret->sG,World->sH,Value->sI,Calls->wH,Addr->wR,run_callFunc_extern->AT,method->B3
open Go.Instr renaming typeAssert->BK
open Go.RowKit.Below renaming refl->E0,heap_setCell->EJ
open Go.RowKit renaming Below->Ga
open Go.Extern.ReflectliteType renaming typeOf->Lx,method->Md
open _root_.Bool renaming and_eq_true->Nh
open _root_.Option renaming map_eq_some_iff->Ov
open _root_.Nat renaming lt_or_ge->Oz,le_trans->P1,zero_le->P2
open Go.World renaming cell?_of_block->P3,cell?->P4
open Go.Extern.Rtype renaming noPackHeld->P5
open Go.Proofs renaming enters_of->P6
variable {B d g i:Nat}{deep:Int}{s v:sI}{t:TypeId}{w w':sH}
inductive PT where
 | n0 (k n:Int)
 | n1 (k n:Int) (a:PT)
 | n2 (k n:Int) (a b:PT)
def PT.k:PT->Int
 | .n0 k _=>k
 | .n1 k _ _=>k
 | .n2 k _ _ _=>k
def PT.n:PT->Int
 | .n0 _ n=>n
 | .n1 _ n _=>n
 | .n2 _ n _ _=>n
def PT.len:PT->Nat
 | .n0 _ _=>0
 | .n1 _ _ _=>1
 | .n2 _ _ _ _=>2
def PT.ab:PT->Nat->PT
 | .n1 _ _ a,_=>a
 | .n2 _ _ a _,0=>a
 | .n2 _ _ _ b,_=>b
 | t,_=>t
def PT.sm:PT->Prop
 | .n0 _ n=>0<=n/\n<=99
 | .n1 _ n a=>(0<=n/\n<=99)/\a.sm
 | .n2 _ n a b=>(0<=n/\n<=99)/\a.sm/\b.sm
theorem PT.dc {t:PT}(h:t.sm):0<=t.n/\t.n<=99:=by
 cases t
 ·exact h
 ·exact h.1
 ·exact h.1
theorem PT.de {t:PT}(h:t.sm)(hi:i<t.len):(t.ab i).sm:=by
 cases t with
 | n0 k n=>simp[PT.len]at hi
 | n1 k n a=>exact h.2
 | n2 k n a b=>
  cases i with
  | zero=>exact h.2.1
  | succ i=>exact h.2.2
def cZ (B:Nat)(w:sH):PT->sI->Prop
 | .n0 _ _,s=>∃a c,s=.slice a 0 c
 | .n1 _ _ x,s=>∃g off c sx,s=.slice (some ⟨g,off,none⟩) 1 c/\B<=g/\w.cell? ⟨g,off,none⟩=some (.int .i64 x.k)/\w.cell? ⟨g,off+1,none⟩=some (.int .i64 x.n)/\w.cell? ⟨g,off+2,none⟩=some sx/\cZ B w x sx
 | .n2 _ _ x y,s=>∃g off c sx sy,s=.slice (some ⟨g,off,none⟩) 2 c/\B<=g/\w.cell? ⟨g,off,none⟩=some (.int .i64 x.k)/\w.cell? ⟨g,off+1,none⟩=some (.int .i64 x.n)/\w.cell? ⟨g,off+2,none⟩=some sx/\w.cell? ⟨g,off+3,none⟩=some (.int .i64 y.k)/\w.cell? ⟨g,off+4,none⟩=some (.int .i64 y.n)/\w.cell? ⟨g,off+5,none⟩=some sy/\cZ B w x sx/\cZ B w y sy
theorem cZ.sl {t:PT}(h:cZ B w t s):∃a c,s=.slice a t.len c:=by
 cases t with
 | n0 k n=>obtain⟨a,c,rfl⟩:=h;exact⟨_,_,rfl⟩
 | n1 k n x=>obtain⟨g,off,c,sx,rfl,_⟩:=h;exact⟨_,_,rfl⟩
 | n2 k n x y=>obtain⟨g,off,c,sx,sy,rfl,_⟩:=h;exact⟨_,_,rfl⟩
theorem cZ.at {t:PT}{a:Option wR}{n c:Nat}(h:cZ B w t (.slice a n c))(hi:i<t.len):
  ∃g off sx,a=some ⟨g,off,none⟩/\g<w.heap.size/\w.cell? ⟨g,off+i*3,none⟩=some (.int .i64 (t.ab i).k)/\w.cell? ⟨g,off+i*3+1,none⟩=some (.int .i64 (t.ab i).n)/\w.cell? ⟨g,off+i*3+2,none⟩=some sx/\cZ B w (t.ab i) sx/\(∃b m d,sx=.slice b m d):=by
 cases t with
 | n0 k n=>simp[PT.len]at hi
 | n1 k n x=>
  obtain⟨g,off,c,sx,e,_,h1,h2,h3,h4⟩:=h;obtain rfl:i=0:=by simp[PT.len]at hi;exact hi
  cases e;obtain⟨b,d,A⟩:=h4.sl;exact⟨g,off,sx,rfl,lC h1,by simpa[PT.ab]using h1,by simpa[PT.ab]using h2,by simpa using h3,h4,_,_,_,A⟩
 | n2 k n x y=>
  obtain⟨g,off,c,sx,sy,e,_,h1,h2,h3,h4,h5,h6,h7,h8⟩:=h;cases e;cases i with
  | zero=>
   obtain⟨b,d,A⟩:=h7.sl;exact⟨g,off,sx,rfl,lC h1,by simpa[PT.ab]using h1,by simpa[PT.ab]using h2,by simpa using h3,h7,_,_,_,A⟩
  | succ i=>
   obtain rfl:i=0:=by simp[PT.len]at hi;omega
   obtain⟨b,d,A⟩:=h8.sl;exact⟨g,off,sy,rfl,lC h1,by simpa[PT.ab]using h4,by simpa[PT.ab]using h5,by simpa using h6,h8,_,_,_,A⟩
theorem cZ.keep {B:Nat}{w w':sH}(A:Ga w.heap.size w w'):∀{t:PT}{s:sI},cZ B w t s->cZ B w' t s
 | .n0 _ _,_,h=>h
 | .n1 _ _ _,_,⟨g,off,c,sx,e,hg,h1,h2,h3,h4⟩=>⟨g,off,c,sx,e,hg,cB A h1,cB A h2,cB A h3,cZ.keep A h4⟩
 | .n2 _ _ _ _,_,⟨g,off,c,sx,sy,e,hg,h1,h2,h3,h4,h5,h6,h7,h8⟩=>⟨g,off,c,sx,sy,e,hg,cB A h1,cB A h2,cB A h3,cB A h4,cB A h5,cB A h6,cZ.keep A h7,cZ.keep A h8⟩
theorem mD {q:Nat}(hx:Bx q w w')(hg:g≠q)(h:w.cell? ⟨g,i,none⟩=some v):w'.cell? ⟨g,i,none⟩=some v:=by
 rw[P3 (w:=w) (hx.block g (lC h) hg)];exact h
theorem cZ.aN {B q:Nat}{w w':sH}(hx:Bx q w w')(hq:q<B):∀{t:PT}{s:sI},cZ B w t s->cZ B w' t s
 | .n0 _ _,_,h=>h
 | .n1 _ _ _,_,⟨g,off,c,sx,e,hg,h1,h2,h3,h4⟩=>⟨g,off,c,sx,e,hg,mD hx (by omega) h1,mD hx (by omega) h2,mD hx (by omega) h3,cZ.aN hx hq h4⟩
 | .n2 _ _ _ _,_,⟨g,off,c,sx,sy,e,hg,h1,h2,h3,h4,h5,h6,h7,h8⟩=>⟨g,off,c,sx,sy,e,hg,mD hx (by omega) h1,mD hx (by omega) h2,mD hx (by omega) h3,mD hx (by omega) h4,mD hx (by omega) h5,mD hx (by omega) h6,cZ.aN hx hq h7,cZ.aN hx hq h8⟩
theorem cZ.less {B B':Nat}{w:sH}(A:B'<=B):∀{t:PT}{s:sI},cZ B w t s->cZ B' w t s
 | .n0 _ _,_,h=>h
 | .n1 _ _ _,_,⟨g,off,c,sx,e,hg,h1,h2,h3,h4⟩=>⟨g,off,c,sx,e,P1 A hg,h1,h2,h3,cZ.less A h4⟩
 | .n2 _ _ _ _,_,⟨g,off,c,sx,sy,e,hg,h1,h2,h3,h4,h5,h6,h7,h8⟩=>⟨g,off,c,sx,sy,e,P1 A hg,h1,h2,h3,h4,h5,h6,cZ.less A h7,cZ.less A h8⟩
abbrev pl (k n:Int)(s:sI):sI:= .agg #[.int .i64 k,.int .i64 n,s]
def fA (k:Int):Int:=if k=1 then 0 else if k=2 then 1 else if k=3 then 2 else if k=4 then 1 else if k=5 then 2 else if k=6 then 1 else -1
def eN (k:Int):Int:=if k=2 then 1 else if k=6 then 1 else 0
def eP (k:Int):Int:=if k=1 then 1 else if k=2 then 7 else if k=6 then 3 else 0
def dT (t:PT):Bool:=cH t.k 1 6&&decide ((t.len:Int)=fA t.k)&&cH t.n (eN t.k) (eP t.k)
def d7:PT->Nat->Bool
 | _,0=>false
 | .n0 k n,_+1=>dT (.n0 k n)
 | .n1 k n a,d+1=>dT (.n1 k n a)&&d7 a d
 | .n2 k n a b,d+1=>dT (.n2 k n a b)&&d7 a d&&d7 b d
theorem rF (t:PT):d7 t 0=false:=by cases t<;>rfl
theorem AA {t:PT}(h:dT t=false):d7 t (d+1)=false:=by
 cases t<;>simp[d7,h]
theorem Fy {t:PT}(hi:i<t.len)(h:d7 (t.ab i) d=false):d7 t (d+1)=false:=by
 cases t with
 | n0 k n=>simp[PT.len]at hi
 | n1 k n a=>simp only[PT.ab]at h;simp[d7,h]
 | n2 k n a b=>
  cases i with
  | zero=>simp only[PT.ab]at h;simp[d7,h]
  | succ i=>simp only[PT.ab]at h;simp[d7,h]
theorem Bj {t:PT}(h:dT t=true)(A:∀i,i<t.len->d7 (t.ab i) d=true):d7 t (d+1)=true:=by
 cases t with
 | n0 k n=>simpa[d7]using h
 | n1 k n a=>have:=A 0 (by simp[PT.len]);simp only[PT.ab]at this;simp[d7,h,this]
 | n2 k n a b=>
  have h0:=A 0 (by simp[PT.len]);have h1:=A 1 (by simp[PT.len]);simp only[PT.ab]at h0 h1;simp[d7,h,h0,h1]
theorem sV {t:PT}(h:d7 t (d+1)=true):dT t=true/\∀i,i<t.len->d7 (t.ab i) d=true:=by
 cases t with
 | n0 k n=>exact⟨by simpa[d7]using h,fun i hi=>by simp[PT.len]at hi⟩
 | n1 k n a=>
  simp only[d7,Nh]at h;exact⟨h.1,fun i _=>h.2⟩
 | n2 k n a b=>
  simp only[d7,Nh]at h;refine⟨h.1.1,fun i _=>?_⟩;cases i
  ·exact h.1.2
  ·exact h.2
theorem LR {t:PT}(h:d7 t d=true):d7 t (d+1)=true:=by
 induction d generalizing t with
 | zero=>rw[rF]at h;cases h
 | succ d ih=>exact Bj (sV h).1 fun i hi=>ih ((sV h).2 i hi)
open Go.Extern.Stop Go.Stop Go.Extern
theorem KS (v:sI)(w:sH):(Lx #[.iface 327 v]).run fD w=.ok (.iface 261 (.agg #[.pointer (some ⟨4,327,none⟩)])) w:=by kernel_rfl
theorem DZ (w:sH):((Md fun t=>do P5 "Comparable" t;(fun a=>sI.bool a.comparable) <$> typeInfo t) #[.agg #[.pointer (some ⟨4,327,none⟩)]]).run fD w=.ok (.bool true) w:=by kernel_rfl
theorem xJ (v:sI)(w:sH):(B3 474 261 v "Comparable").run fD w=.ok (324,v) w:=by kernel_rfl
theorem Nb:(fD.info? 327).map (·.comparable)=some true:=by kernel_rfl
theorem Nd:(fD.info? 362).map (·.size)=some 1:=by kernel_rfl
abbrev iB (a:wR):sI:= .iface 327 (.pointer (some a))
theorem Fi (a:wR)(w:sH):
  wH fD 139 #[iB a,iB a] w fun e w'=>e=.returned (.bool true)/\w'=w:=by
 obtain⟨i,hi,A⟩:=Ov.1 Nb;obtain⟨j,D,F⟩:=Ov.1 Nd;have h8:=@AT fD 192 _ Lx Tryz.func192 (by kernel_rfl) (by kernel_rfl) (by kernel_rfl) (by kernel_rfl);have H:=@AT fD 324 _ (Md fun t=>do P5 "Comparable" t;pure (.bool (<- typeInfo t).comparable)) Tryz.func324 (by kernel_rfl) (by kernel_rfl) (by kernel_rfl) (by kernel_rfl);have I:=KS;have L:=DZ;have J:=xJ;have G:=run_eql_iface_ptr_same (P:=fD) w a kR Tryz.underlying327 hi A D;go_enter sE,lY
 go_wp2
 refine wp_loop_rounds 1 ?_;rw[rounds_succ]
 go_wp2
 go_ret;exact⟨rfl,rfl⟩
theorem E4 (b:wR)(w:sH):
  wH fD 139 #[.nilIface,iB b] w fun e w'=>e=.returned (.bool false)/\w'=w:=by
 have hn:=run_eql_iface_nil_left (P:=fD) w 327 (.pointer (some b)) kR;go_enter sE,lY
 go_wp2
 go_ret;exact⟨rfl,rfl⟩
open Go.Shelf
theorem Lt (i:Nat)(h:i<100):(ByteArray.mk (Lib.decDigits i).toArray).size<=2:=by
 show (Lib.decDigits i).toArray.size<=2
 by_cases h1:i<10
 ·rw[Lib.decDigits_one h1];simp
 ·rw[Lib.decDigits_two h1 h];simp
theorem vH {n:Int}(h0:0<=n)(A:n<=99)(w:sH):wH fD 303 #[.int .i64 n] w fun e w'=>(∃s:ByteArray,e=.returned (.string s)/\s.size<=2)/\w'=w:=by
 obtain⟨i,rfl⟩:=Int.eq_ofNat_of_zero_le h0;refine (Any.strconv_Itoa_small itoU i (by omega) w).mono ?_;rintro e w' ⟨rfl,rfl⟩;exact⟨⟨_,rfl,Lt i (by omega)⟩,rfl⟩
abbrev P0 (s:ByteArray)(a b c:Int):sI:= .agg #[.string s,.int .i64 a,.int .i64 b,.int .i64 c]
def mK (k:Int)(F:Nat):Prop:=∀(n:Int)(w:sH),0<=n->n<=99->wH fD F #[.int .i64 n] w fun e w'=>(∃s,e=.returned (P0 s (fA k) (eN k) (eP k)))/\Ga w.heap.size w w'
theorem KX:mK 1 302:=fun n w h0 A=>by
 go_enter qA,Tryz.ntmps302;go_wp2_with fail;refine (vH h0 A _).mono ?_;rintro e w1 ⟨⟨s,rfl,hs⟩,rfl⟩;have D:¬(9223372036854775807<2+s.size):=by omega
 go_wp2_with fail;refine sG (by simp[results,Tryz.results302,go_sem];try rfl) rfl ?_;exact⟨⟨_,rfl⟩,aG (E0 _ _) _⟩
theorem GK:mK 2 316:=fun n w h0 A=>by
 go_enter oO,Tryz.ntmps316;go_wp2_with fail;refine (vH h0 A _).mono ?_;rintro e w1 ⟨⟨s,rfl,hs⟩,rfl⟩;have D:¬(9223372036854775807<4+s.size):=by omega
 go_wp2_with fail;refine sG (by simp[results,Tryz.results316,go_sem];try rfl) rfl ?_;exact⟨⟨_,rfl⟩,aG (E0 _ _) _⟩
theorem IP:mK 6 320:=fun n w h0 A=>by
 go_enter mF,Tryz.ntmps320;go_wp2_with fail;refine (vH h0 A _).mono ?_;rintro e w1 ⟨⟨s,rfl,hs⟩,rfl⟩;have D:¬(9223372036854775807<3+s.size):=by omega
 go_wp2_with fail;refine sG (by simp[results,Tryz.results320,go_sem];try rfl) rfl ?_;exact⟨⟨_,rfl⟩,aG (E0 _ _) _⟩
theorem Gm:mK 3 317:=fun n w _ _=>by
 go_enter oJ,Tryz.ntmps317;go_wp2_with fail;refine sG (by simp[results,Tryz.results317,go_sem];try rfl) rfl ?_;exact⟨⟨_,rfl⟩,aG (E0 _ _) _⟩
theorem Ha:mK 4 318:=fun n w _ _=>by
 go_enter nU,Tryz.ntmps318;go_wp2_with fail;refine sG (by simp[results,Tryz.results318,go_sem];try rfl) rfl ?_;exact⟨⟨_,rfl⟩,aG (E0 _ _) _⟩
theorem GI:mK 5 319:=fun n w _ _=>by
 go_enter mJ,Tryz.ntmps319;go_wp2_with fail;refine sG (by simp[results,Tryz.results319,go_sem];try rfl) rfl ?_;exact⟨⟨_,rfl⟩,aG (E0 _ _) _⟩
structure nV (k:Int)(T F:Nat):Prop where
 shape:mK k F
 meth:∀(v:sI)(w:sH),(B3 474 T v "loop.example/tideline/impl.shape").run fD w=.ok (F,v) w
 enters:∀args w,(callFunc F args).run fD w=.ok (.enter F args) w
 kind:∀(n:Int)(s:sI)(w:sH),wH fD 191 #[pl k n s] w fun e w'=>e=.returned (.tuple #[.iface T (.int .i64 n),.nilIface])/\Ga w.heap.size w w'
theorem pU (w:sH)(k n:Int)(s:sI):Bk (w.alloc (.cells #[.int .i64 k,.int .i64 n,s] 25)) w.heap.size #[.int .i64 k,.int .i64 n,s] 25:=Bk.new _ _ rfl
theorem Bk.aK {k:Nat}{F D A:sI}(h:Bk w k #[F,D,A] t):w.cell? ⟨k,0,none⟩=some F/\w.cell? ⟨k,1,none⟩=some D/\w.cell? ⟨k,2,none⟩=some A:=by
 unfold Bk at h;simp[P4,h]
theorem Ls:nV 1 172 302 where
 shape:=KX
 meth:=fun v w=>by kernel_rfl
 enters:=P6 qA (by kernel_rfl) rfl
 kind:=fun n s w=>by
  obtain⟨F,D,A⟩:=(pU w 1 n s).aK;go_enter gY,fV;go_wp2_with fail;refine sG (by simp[results,fH,go_sem];try rfl) rfl ?_;exact⟨rfl,aG (E0 _ _) _⟩
theorem JK:nV 2 173 316 where
 shape:=GK
 meth:=fun v w=>by kernel_rfl
 enters:=P6 oO (by kernel_rfl) rfl
 kind:=fun n s w=>by
  obtain⟨F,D,A⟩:=(pU w 2 n s).aK;go_enter gY,fV;go_wp2_with fail;refine sG (by simp[results,fH,go_sem];try rfl) rfl ?_;exact⟨rfl,aG (E0 _ _) _⟩
theorem Io:nV 3 175 317 where
 shape:=Gm
 meth:=fun v w=>by kernel_rfl
 enters:=P6 oJ (by kernel_rfl) rfl
 kind:=fun n s w=>by
  obtain⟨F,D,A⟩:=(pU w 3 n s).aK;go_enter gY,fV;go_wp2_with fail;refine sG (by simp[results,fH,go_sem];try rfl) rfl ?_;exact⟨rfl,aG (E0 _ _) _⟩
theorem JQ:nV 4 177 318 where
 shape:=Ha
 meth:=fun v w=>by kernel_rfl
 enters:=P6 nU (by kernel_rfl) rfl
 kind:=fun n s w=>by
  obtain⟨F,D,A⟩:=(pU w 4 n s).aK;go_enter gY,fV;go_wp2_with fail;refine sG (by simp[results,fH,go_sem];try rfl) rfl ?_;exact⟨rfl,aG (E0 _ _) _⟩
theorem ID:nV 5 178 319 where
 shape:=GI
 meth:=fun v w=>by kernel_rfl
 enters:=P6 mJ (by kernel_rfl) rfl
 kind:=fun n s w=>by
  obtain⟨F,D,A⟩:=(pU w 5 n s).aK;go_enter gY,fV;go_wp2_with fail;refine sG (by simp[results,fH,go_sem];try rfl) rfl ?_;exact⟨rfl,aG (E0 _ _) _⟩
theorem LD:nV 6 180 320 where
 shape:=IP
 meth:=fun v w=>by kernel_rfl
 enters:=P6 mF (by kernel_rfl) rfl
 kind:=fun n s w=>by
  obtain⟨F,D,A⟩:=(pU w 6 n s).aK;go_enter gY,fV;go_wp2_with fail;refine sG (by simp[results,fH,go_sem];try rfl) rfl ?_;exact⟨rfl,aG (E0 _ _) _⟩
theorem JT (A:wR)(k n:Int)(s:sI)(w:sH)(O:k<1\/6<k)(hg:w.cell? ⟨0,0,none⟩=some (iB A)):wH fD 191 #[pl k n s] w fun e w'=>e=.returned (.tuple #[.nilIface,iB A])/\Ga w.heap.size w w':=by
 obtain⟨I,H,G⟩:=(pU w k n s).aK;have n1:(k==1)=false:=by simp;omega
 have n2:(k==2)=false:=by simp;omega
 have N:(k==3)=false:=by simp;omega
 have M:(k==4)=false:=by simp;omega
 have L:(k==5)=false:=by simp;omega
 have J:(k==6)=false:=by simp;omega
 have F:=cB (aG (E0 w.heap.size w) (.cells #[.int .i64 k,.int .i64 n,s] 25)) hg;go_enter gY,fV;go_wp2_with fail
 go_quiet (fail)
 have D:=cB (dC (aG (E0 w.heap.size w) (.cells #[.int .i64 k,.int .i64 n,s] 25)) nq) hg;go_wp2_with fail;refine sG (by simp[results,fH,go_sem];try rfl) rfl ?_;exact⟨rfl,dC (aG (E0 _ _) _) _⟩
theorem Bk.da {k:Nat}{G F D A:sI}(h:Bk w k #[G,F,D,A] t):w.cell? ⟨k,0,none⟩=some G/\w.cell? ⟨k,1,none⟩=some F/\w.cell? ⟨k,2,none⟩=some D/\w.cell? ⟨k,3,none⟩=some A:=by
 unfold Bk at h;simp[P4,h]
abbrev G8:sI:= .agg #[.nilIface,.slice none 0 0]
theorem Ab (N:wR){T F:Nat}{t:PT}(H:nV t.k T F)(hn:0<=t.n/\t.n<=99)(hs:cZ B w t s)(hg:w.cell? ⟨0,0,none⟩=some (iB N))
  (V:4<deep\/(¬4<deep/\¬(t.len:Int)=fA t.k)\/(¬4<deep/\(t.len:Int)=fA t.k/\t.n<eN t.k)\/(¬4<deep/\(t.len:Int)=fA t.k/\¬t.n<eN t.k/\eP t.k<t.n)):
  wH fD 138 #[pl t.k t.n s,.int .i64 deep] w fun e w'=>e=.returned (.tuple #[G8,iB N])/\Ga w.heap.size w w':=by
 obtain⟨a,c,rfl⟩:=hs.sl;have HS:=(show Hid (mK t.k F) from H.shape);have HK:=(show Hid _ from H.kind);have x4:=H.meth;have x6:=H.enters;have Y:Bk ((w.alloc (.cells #[.int .i64 t.k,.int .i64 t.n,.slice a t.len c] 25)).alloc (.cells #[.nilIface,.slice none 0 0] 161)) w.heap.size #[.int .i64 t.k,.int .i64 t.n,.slice a t.len c] 25:=(Bk.new _ _ rfl).alloc _;have bR:Bk ((w.alloc (.cells #[.int .i64 t.k,.int .i64 t.n,.slice a t.len c] 25)).alloc (.cells #[.nilIface,.slice none 0 0] 161)) (w.heap.size+1) #[.nilIface,.slice none 0 0] 161:=Bk.new _ _ (by simp);have O:Ga w.heap.size w ((w.alloc (.cells #[.int .i64 t.k,.int .i64 t.n,.slice a t.len c] 25)).alloc (.cells #[.nilIface,.slice none 0 0] 161)):=aG (aG (E0 _ _) _) _;clear hs H;obtain⟨x0,x1,Z⟩:=Y.aK;go_enter jU,iC;go_wp2_with fail;generalize ((w.alloc (.cells #[.int .i64 t.k,.int .i64 t.n,.slice a t.len c] 25)).alloc (.cells #[.nilIface,.slice none 0 0] 161))=W0 at*;refine (HK.out t.n _ _).mono ?_;rintro e w1 ⟨rfl,I⟩;have U:=Y.keep I;have R:=bR.keep I;have L:=aH O I;clear x0 x1 Z Y bR O I;go_wp2_with fail;refine (HS.out t.n _ hn.1 hn.2).mono ?_;rintro e A ⟨⟨sx,rfl⟩,G⟩;have bS:Bk (A.alloc (.cells #[.string sx,.int .i64 (fA t.k),.int .i64 (eN t.k),.int .i64 (eP t.k)] 217)) A.heap.size #[.string sx,.int .i64 (fA t.k),.int .i64 (eN t.k),.int .i64 (eP t.k)] 217:=Bk.new _ _ rfl;have D:Ga A.heap.size A (A.alloc (.cells #[.string sx,.int .i64 (fA t.k),.int .i64 (eN t.k),.int .i64 (eP t.k)] 217)):=aG (E0 _ _) _;have S:=(U.keep G).keep D;have M:=(R.keep G).keep D;have J:=aH (aH L G) D;have x5:=cB J hg;clear G D U R L x4 x6
 go_upto_region 5 with fail
 generalize (A.alloc (.cells #[.string sx,.int .i64 (fA t.k),.int .i64 (eN t.k),.int .i64 (eP t.k)] 217))=W3 at*;generalize A.heap.size=sb at*;obtain⟨x0,x1,Z⟩:=S.aK;obtain⟨s0,s1,s2,s3⟩:=bS.da;obtain⟨r0,r1,f0,f1⟩:=M.two;have bo:=(M.ag .nilIface (.slice none 0 0)).drew;have x7:Ga w.heap.size w ((W3.setCell ⟨w.heap.size+1,0,none⟩ .nilIface).setCell ⟨w.heap.size+1,1,none⟩ (.slice none 0 0)).drew:=((J.setCell (by simp) _).setCell (by simp) _).drew;obtain⟨y0,y1,_,_⟩:=bo.two;have y8:W3.drew.cell? ⟨0,0,none⟩=some (iB N):=x5;clear S bS M bo HS HK
 rcases V with h1|⟨h1,h2⟩|⟨h1,h2,h3⟩|⟨h1,h2,h3,h4⟩
 all_goals
  go_wp2_with fail
  go_region
  go_wp2_with fail;refine sG (v:= .tuple #[G8,iB N]) (by simp[results,gZ,go_sem,y0,y1];try rfl) rfl ?_;exact⟨rfl,x7⟩
def kT (k:Int):Nat:=if k=1 then 172 else if k=2 then 173 else if k=3 then 175 else if k=4 then 177 else if k=5 then 178 else 180
theorem FY {k:Int}(h:cH k 1 6=true):∃F,nV k (kT k) F:=by
 have h2:1<=k/\k<=6:=by simpa[cH]using h
 have:k=1\/k=2\/k=3\/k=4\/k=5\/k=6:=by omega
 rcases this with rfl|rfl|rfl|rfl|rfl|rfl
 ·exact⟨_,Ls⟩
 ·exact⟨_,JK⟩
 ·exact⟨_,Io⟩
 ·exact⟨_,JQ⟩
 ·exact⟨_,ID⟩
 ·exact⟨_,LD⟩
abbrev eS (t:PT):sI:= .iface (kT t.k) (.int .i64 t.n)
def jY (p:Nat->Prop)(w:sH):PT->sI->Prop
 | .n0 _ _,s=>∃a c,s=.slice a 0 c
 | .n1 _ _ x,s=>∃g c sx,s=.slice (some ⟨g,0,none⟩) 1 c/\p g/\w.cell? ⟨g,0,none⟩=some (eS x)/\w.cell? ⟨g,1,none⟩=some sx/\jY p w x sx
 | .n2 _ _ x y,s=>∃g c sx sy,s=.slice (some ⟨g,0,none⟩) 2 c/\p g/\w.cell? ⟨g,0,none⟩=some (eS x)/\w.cell? ⟨g,1,none⟩=some sx/\w.cell? ⟨g,2,none⟩=some (eS y)/\w.cell? ⟨g,3,none⟩=some sy/\jY p w x sx/\jY p w y sy
theorem jY.sl {p:Nat->Prop}{t:PT}(h:jY p w t s):∃a c,s=.slice a t.len c:=by
 cases t with
 | n0 k n=>obtain⟨a,c,rfl⟩:=h;exact⟨_,_,rfl⟩
 | n1 k n x=>obtain⟨g,c,sx,rfl,_⟩:=h;exact⟨_,_,rfl⟩
 | n2 k n x y=>obtain⟨g,c,sx,sy,rfl,_⟩:=h;exact⟨_,_,rfl⟩
theorem eA (e:w'.heap[g]?=w.heap[g]?)(h:w.cell? ⟨g,i,none⟩=some v):w'.cell? ⟨g,i,none⟩=some v:=by
 rw[P3 (w:=w) e];exact h
theorem jY.move {p q:Nat->Prop}{w w':sH}(H:∀g,p g->g<w.heap.size->q g/\w'.heap[g]?=w.heap[g]?):∀{t:PT}{s:sI},jY p w t s->jY q w' t s
 | .n0 _ _,_,h=>h
 | .n1 _ _ _,_,⟨g,c,sx,e,hp,h1,h2,h3⟩=>⟨g,c,sx,e,(H g hp (lC h1)).1,eA (H g hp (lC h1)).2 h1,eA (H g hp (lC h1)).2 h2,jY.move H h3⟩
 | .n2 _ _ _ _,_,⟨g,c,sx,sy,e,hp,h1,h2,h3,h4,h5,h6⟩=>⟨g,c,sx,sy,e,(H g hp (lC h1)).1,eA (H g hp (lC h1)).2 h1,eA (H g hp (lC h1)).2 h2,eA (H g hp (lC h1)).2 h3,eA (H g hp (lC h1)).2 h4,jY.move H h5,jY.move H h6⟩
abbrev zH (ps:List (sI×sI)):List sI:=ps.flatMap fun p=>[p.1,p.2]
theorem Nm {p q:Nat->Prop}{t:PT}{sl:sI}{ps:List (sI×sI)}(ho:w.ownsRow B 161 2 sl t.len (zH ps))(hl:ps.length=t.len)
  (G:∀j a s,ps[j]?=some (a,s)->a=eS (t.ab j)/\jY p w (t.ab j) s) (hq:∀g,B<=g->q g) (I:∀g,p g->q g):jY q w t sl:=by
 have hm:∀{x:PT}{s:sI},jY p w x s->jY q w x s:=jY.move fun g h _=>⟨I g h,rfl⟩;have J:=ho;obtain⟨_,⟨rfl,h0⟩|⟨g,A,M,rfl,hg,_⟩⟩:=ho
 ·cases t with
  | n0 k n=>exact⟨_,_,rfl⟩
  | n1 k n x=>simp[PT.len]at h0
  | n2 k n x y=>simp[PT.len]at h0
 ·have ha:=fun i (hi:i<t.len*2)=>J.cellAt i hi;cases t with
  | n0 k n=>exact⟨_,_,rfl⟩
  | n1 k n x=>
   obtain⟨⟨a,s⟩,rfl⟩:∃z,ps=[z]:=by
    match ps,hl with
    | [z],_=>exact⟨z,rfl⟩
   obtain⟨e,F⟩:=G 0 a s rfl;refine⟨g,A,s,rfl,hq g hg,?_,?_,hm F⟩
   ·rw[ha 0 (by simp[PT.len])];simp[e,PT.ab]
   ·rw[ha 1 (by simp[PT.len])];simp
  | n2 k n x y=>
   obtain⟨⟨a,s⟩,⟨b,s'⟩,rfl⟩:∃z D,ps=[z,D]:=by
    match ps,hl with
    | [z,D],_=>exact⟨z,D,rfl⟩
   obtain⟨e,F⟩:=G 0 a s rfl;obtain⟨L,H⟩:=G 1 b s' rfl;refine⟨g,A,s,s',rfl,hq g hg,?_,?_,?_,?_,hm F,hm H⟩
   ·rw[ha 0 (by simp[PT.len])];simp[e,PT.ab]
   ·rw[ha 1 (by simp[PT.len])];simp
   ·rw[ha 2 (by simp[PT.len])];simp[L,PT.ab]
   ·rw[ha 3 (by simp[PT.len])];simp
theorem MO {P:Program}{z:sI}{a b:Nat}(h:(P.info? t).map (fun i=>(i.zero,i.size,i.bytes))=some (some z,a,b)):∃i,P.info? t=some i/\i.zero=some z/\i.size=a/\i.bytes=b:=by
 obtain⟨i,hi,A⟩:=Ov.1 h;simp only[Prod.mk.injEq]at A;exact⟨i,hi,A.1,A.2.1,A.2.2⟩
theorem Nu:(fD.info? 161).map (fun i=>(i.zero,i.size,i.bytes))=some (some (.agg #[.nilIface,.slice none 0 0]),2,40):=by kernel_rfl
theorem Lm {x y:sI}(h:Bk w g #[x,y] t):∀j u,[x,y][j]?=some u->w.cell? ((⟨g,0,none⟩:wR).add j)=some u:=by
 intro j u A;have e:(⟨g,0,none⟩:wR).add j=⟨g,j,none⟩:=by simp[wR.add];exact fun h=>h.symm
 rw[e];unfold Bk at h;simp[P4,h,A]
section
variable {ops:Array Oper}{rest:List Oper}{o:Oper}{a:Act}{Q:Exit->Act->sH->Prop}
theorem Oy (w:sH)(R:o.guard=none)(s x:Operand)(ho:o.op=.call { callee:= .builtin .append,args:=#[s,x],argTypes:=#[159,159] })
  (A:Nat) (v:sI) (ps:List (sI×sI)) (hs:a.eval s=v) (I:w.ownsRow A 161 2 v ps.length (zH ps)) (J:Nat) (G:TypeId) (H:sI) (b:Option wR) (n c:Nat) (hx:a.eval x=.slice (some ⟨J,0,none⟩) 1 1)
  (S:Bk w J #[.iface G H,.slice b n c] 161) (hl:ps.length<=2000000) (F:A<=w.heap.size)
  (h:∀g D w',w'.ownsRow A 161 2 (.slice (some ⟨g,0,none⟩) (ps.length+1) D) (ps.length+1) (zH (ps++[(.iface G H,.slice b n c)]))->w.grownBy w' v.ownBlock->(v.ownBlock=some g\/g=w.heap.size)->g<w'.heap.size->wpList fD ops Q rest (a.put o.dst (.slice (some ⟨g,0,none⟩) (ps.length+1) D)) w'):
  wpList fD ops Q (o::rest) a w:=by
 obtain⟨i0,hi,N,M,L⟩:=MO Nu;refine wpList_append_lies w R s x 159 ho A 161 i0 _ 2 40 Tryz.underlying159 hi N M L rfl (by decide) v ps.length (zH ps) hs I ⟨J,0,none⟩ 1 1 [.iface G H,.slice b n c] hx rfl (Lm S) (fun u O=>by simp at O;rcases O with rfl|rfl<;>rfl) (by omega) (by unfold maxLen;omega) (by omega) F w.heap.size rfl ?_
 intro g D w' h1 h2 h3 h4;refine h g D w' ?_ h2 h3 h4
 show w'.ownsRow _ _ _ _ _ (zH _)
 simp only[zH,List.flatMap_append]at h1 ⊢
 simpa using h1
end
theorem zA (F:wR){k n:Int}(I:∃a m c,s=.slice a m c)(V:k<1\/6<k)(hg:w.cell? ⟨0,0,none⟩=some (iB F)):
  wH fD 138 #[pl k n s,.int .i64 deep] w fun e w'=>e=.returned (.tuple #[G8,iB F])/\Ga w.heap.size w w':=by
 obtain⟨a,m,c,rfl⟩:=I;have N:Bk ((w.alloc (.cells #[.int .i64 k,.int .i64 n,.slice a m c] 25)).alloc (.cells #[.nilIface,.slice none 0 0] 161)) w.heap.size #[.int .i64 k,.int .i64 n,.slice a m c] 25:=(Bk.new _ _ rfl).alloc _;have M:Bk ((w.alloc (.cells #[.int .i64 k,.int .i64 n,.slice a m c] 25)).alloc (.cells #[.nilIface,.slice none 0 0] 161)) (w.heap.size+1) #[.nilIface,.slice none 0 0] 161:=Bk.new _ _ (by simp);have D:Ga w.heap.size w ((w.alloc (.cells #[.int .i64 k,.int .i64 n,.slice a m c] 25)).alloc (.cells #[.nilIface,.slice none 0 0] 161)):=aG (aG (E0 _ _) _) _;have J:=cB D hg;obtain⟨U,T,S⟩:=N.aK;go_enter jU,iC;go_wp2_with fail;generalize ((w.alloc (.cells #[.int .i64 k,.int .i64 n,.slice a m c] 25)).alloc (.cells #[.nilIface,.slice none 0 0] 161))=W0 at*;refine (JT F k n _ _ V J).mono ?_;rintro e w1 ⟨rfl,A⟩;have G:=M.keep A;have H:=aH D A;clear U T S N M D A;obtain⟨r0,Z,f0,f1⟩:=G.two;have Y:=(G.ag .nilIface (.slice none 0 0));have L:Ga w.heap.size w ((w1.setCell ⟨w.heap.size+1,0,none⟩ .nilIface).setCell ⟨w.heap.size+1,1,none⟩ (.slice none 0 0)):=((H.setCell (by simp) _).setCell (by simp) _);obtain⟨R,O,_,_⟩:=Y.two;go_wp2_with fail;refine sG (v:= .tuple #[G8,iB F]) (by simp[results,gZ,go_sem,R,O];try rfl) rfl ?_;exact⟨rfl,L⟩
theorem Oo (n:Int)(w:sH):(BK (.iface 172 (.int .i64 n)) 158 172 true).run fD w=.ok (.tuple #[.int .i64 n,.bool true]) w:=by kernel_rfl
theorem Og (n:Int)(w:sH):(BK (.iface 173 (.int .i64 n)) 158 172 true).run fD w=.ok (.tuple #[.int .i64 0,.bool false]) w:=by kernel_rfl
theorem OU (n:Int)(w:sH):(BK (.iface 173 (.int .i64 n)) 158 173 true).run fD w=.ok (.tuple #[.int .i64 n,.bool true]) w:=by kernel_rfl
theorem Oc (n:Int)(w:sH):(BK (.iface 175 (.int .i64 n)) 158 172 true).run fD w=.ok (.tuple #[.int .i64 0,.bool false]) w:=by kernel_rfl
theorem OY (n:Int)(w:sH):(BK (.iface 175 (.int .i64 n)) 158 173 true).run fD w=.ok (.tuple #[.int .i64 0,.bool false]) w:=by kernel_rfl
theorem Od (n:Int)(w:sH):(BK (.iface 175 (.int .i64 n)) 158 175 true).run fD w=.ok (.tuple #[.int .i64 n,.bool true]) w:=by kernel_rfl
theorem Ou (n:Int)(w:sH):(BK (.iface 177 (.int .i64 n)) 158 172 true).run fD w=.ok (.tuple #[.int .i64 0,.bool false]) w:=by kernel_rfl
theorem Oi (n:Int)(w:sH):(BK (.iface 177 (.int .i64 n)) 158 173 true).run fD w=.ok (.tuple #[.int .i64 0,.bool false]) w:=by kernel_rfl
theorem Oq (n:Int)(w:sH):(BK (.iface 177 (.int .i64 n)) 158 175 true).run fD w=.ok (.tuple #[.int .i64 0,.bool false]) w:=by kernel_rfl
theorem OX (n:Int)(w:sH):(BK (.iface 177 (.int .i64 n)) 158 177 true).run fD w=.ok (.tuple #[.int .i64 n,.bool true]) w:=by kernel_rfl
theorem Oe (n:Int)(w:sH):(BK (.iface 178 (.int .i64 n)) 158 172 true).run fD w=.ok (.tuple #[.int .i64 0,.bool false]) w:=by kernel_rfl
theorem OQ (n:Int)(w:sH):(BK (.iface 178 (.int .i64 n)) 158 173 true).run fD w=.ok (.tuple #[.int .i64 0,.bool false]) w:=by kernel_rfl
theorem Oh (n:Int)(w:sH):(BK (.iface 178 (.int .i64 n)) 158 175 true).run fD w=.ok (.tuple #[.int .i64 0,.bool false]) w:=by kernel_rfl
theorem Ok (n:Int)(w:sH):(BK (.iface 178 (.int .i64 n)) 158 177 true).run fD w=.ok (.tuple #[.int .i64 0,.bool false]) w:=by kernel_rfl
theorem Ot (n:Int)(w:sH):(BK (.iface 178 (.int .i64 n)) 158 178 true).run fD w=.ok (.tuple #[.int .i64 n,.bool true]) w:=by kernel_rfl
theorem Ob (n:Int)(w:sH):(BK (.iface 180 (.int .i64 n)) 158 172 true).run fD w=.ok (.tuple #[.int .i64 0,.bool false]) w:=by kernel_rfl
theorem Oa (n:Int)(w:sH):(BK (.iface 180 (.int .i64 n)) 158 173 true).run fD w=.ok (.tuple #[.int .i64 0,.bool false]) w:=by kernel_rfl
theorem On (n:Int)(w:sH):(BK (.iface 180 (.int .i64 n)) 158 175 true).run fD w=.ok (.tuple #[.int .i64 0,.bool false]) w:=by kernel_rfl
theorem Ow (n:Int)(w:sH):(BK (.iface 180 (.int .i64 n)) 158 177 true).run fD w=.ok (.tuple #[.int .i64 0,.bool false]) w:=by kernel_rfl
theorem Om (n:Int)(w:sH):(BK (.iface 180 (.int .i64 n)) 158 178 true).run fD w=.ok (.tuple #[.int .i64 0,.bool false]) w:=by kernel_rfl
theorem Ox (n:Int)(w:sH):(BK (.iface 180 (.int .i64 n)) 158 180 true).run fD w=.ok (.tuple #[.int .i64 n,.bool true]) w:=by kernel_rfl
def EV (ea:wR)(t:PT)(d:Nat)(w:sH)(e:Ending)(w':sH):Prop:=
 ((d7 t d=true/\∃a n c,e=.returned (.tuple #[.agg #[eS t,.slice a n c],.nilIface])/\jY (fun g=>w.heap.size<=g) w' t (.slice a n c))\/(d7 t d=false/\e=.returned (.tuple #[G8,iB ea])))/\Ga w.heap.size w w'
structure ON (ea:wR)(t:PT)(d:Nat)(w:sH)(b9 k:Nat)(s:sI)(wr:sH):Prop where
 le:k<=t.len
 ps:∃sl ps,ps.length=k/\Bk wr b9 #[eS t,sl] 161/\wr.ownsRow (b9+1) 161 2 sl k (zH ps)/\(∀j a x,ps[j]?=some (a,x)->a=eS (t.ab j)/\jY (fun g=>b9<g/\sl.ownBlock≠some g) wr (t.ab j) x)
 pok:∀j,j<k->d7 (t.ab j) d=true
 box:Bk wr (w.heap.size+1) #[.nilIface,.slice none 0 0] 161
 nine:w.heap.size+1<b9
 bel:Ga w.heap.size w wr
theorem PT.bp (t:PT):t.len<=2:=by cases t<;>simp[PT.len]
theorem zK {w1:sH}{e:TypeId}{s:Nat}{n:Nat}{xs:List sI}(h:w.ownsRow B e s v n xs)(G:∀k,B<=k->k<w.heap.size->w1.heap[k]?=w.heap[k]?):w1.ownsRow B e s v n xs:=by
 obtain⟨h1,h2⟩:=h;refine⟨h1,?_⟩
 rcases h2 with h2|⟨g,F,D,rfl,hg,A,r⟩
 ·exact .inl h2
 ·exact .inr ⟨g,F,D,rfl,hg,by rw[G g hg (lt_of_block A)];exact A,r⟩
theorem n9 {c:Array sI}{A:Option Nat}(h:Bk w g c t)(hg:w.grownBy w' A)(hr:A≠some g):Bk w' g c t:=by
 unfold Bk;rw[hg.block g h.lt (fun e=>hr e.symm)];exact h
theorem KH {ea:wR}{t:PT}{A k:Nat}{wr M J:sH}{sl:sI}{ps:List (sI×sI)}{b:Option wR}{m c H:Nat}(y0:k<t.len)(N:ps.length=k)(R:Bk wr A #[eS t,sl] 161)(U:wr.ownsRow (A+1) 161 2 sl k (zH ps))
  (Z:∀j a x,ps[j]?=some (a,x)->a=eS (t.ab j)/\jY (fun g=>A<g/\sl.ownBlock≠some g) wr (t.ab j) x) (T:∀j,j<k->d7 (t.ab j) d=true) (x3:Bk wr (w.heap.size+1) #[.nilIface,.slice none 0 0] 161) (h9:w.heap.size+1<A) (hb:Ga w.heap.size w wr)
  (G:Ga wr.heap.size wr M) (hk:jY (fun g=>wr.heap.size<=g) M (t.ab k) (.slice b m c)) (hp:d7 (t.ab k) d=true) (hn:J.ownsRow (A+1) 161 2 (.slice (some ⟨g,0,none⟩) (k+1) H) (k+1) (zH (ps++[(eS (t.ab k),.slice b m c)]))) (hg:M.grownBy J sl.ownBlock) (O:sl.ownBlock=some g\/g=M.heap.size):
  ON ea t d w A (k+1) s (J.setCell ⟨A,1,none⟩ (.slice (some ⟨g,0,none⟩) (k+1) H)):=by
 have F:=U.lt;have y1:=R.lt;have x9:=G.size;have hne:sl.ownBlock≠some A:=fun e=>by have:=(F _ e).1;omega
 have D:∀x,x≠A->(J.setCell ⟨A,1,none⟩ (.slice (some ⟨g,0,none⟩) (k+1) H)).heap[x]?=J.heap[x]?:=fun x hx=>EJ _ _ _ _ (by show _≠_;first|exact hx|exact fun e=>hx e.symm)
 refine⟨by omega,⟨_,ps++[(eS (t.ab k),.slice b m c)],by simp[N],(n9 (R.keep G) hg hne).set 1 _,zK hn fun x hx _=>D x (by omega),?_⟩,?_,?_,h9,?_⟩
 ·intro j a x I
  rcases Oz j k with h|h
  ·rw[List.getElem?_append_left (by omega)]at I;obtain⟨e,ok⟩:=Z j a x I;refine⟨e,ok.move fun q hq L=>?_⟩;have S:(sI.slice (some ⟨g,0,none⟩) (k+1) H).ownBlock≠some q:=by
    intro Y;have V:g=q:=by simpa[sI.ownBlock]using Y
    subst V
    rcases O with h1|h1
    ·exact hq.2 h1
    ·omega
   refine⟨⟨hq.1,S⟩,?_⟩;rw[D q (by omega),hg.block q (by omega) (fun e=>hq.2 e.symm)];exact G.block q L
  ·have x0:j=k:=by
    have:=(List.getElem?_eq_some_iff.1 I).1;simp at this;omega
   subst x0;rw[List.getElem?_append_right (by omega),N,Nat.sub_self]at I;simp only[List.getElem?_cons_zero,Option.some.injEq,Prod.mk.injEq]at I;obtain⟨rfl,rfl⟩:=I;refine⟨rfl,hk.move fun q hq L=>?_⟩;have S:(sI.slice (some ⟨g,0,none⟩) (j+1) H).ownBlock≠some q:=by
    intro Y;have V:g=q:=by simpa[sI.ownBlock]using Y
    subst V
    rcases O with h1|h1
    ·have:=(F _ h1).2;omega
    ·omega
   refine⟨⟨by omega,S⟩,?_⟩;rw[D q (by omega)];exact hg.block q L (fun e=>by have:=(F _ e.symm).2;omega)
 ·intro j I
  rcases Oz j k with h|h
  ·exact T j h
  ·obtain rfl:j=k:=by omega
   exact hp
 ·have b2:=n9 (x3.keep G) hg (fun e=>by have:=(F _ e).1;omega);unfold Bk;rw[D _ (by omega)];exact b2
 ·exact ((aH hb G).grown hg (by have:=hb.size;omega) (fun x e=>by have:=(F _ e).1;omega)).setCell (by show _<=A;omega) _
theorem FF (ea:wR){F:Nat}{t:PT}(H:nV t.k (kT t.k) F)(hn:0<=t.n/\t.n<=99)(hs:cZ B w t s)(hg:w.cell? ⟨0,0,none⟩=some (iB ea))
  (hh:dT t=true) (h0:1<=deep) (h4:deep<=4)
  (x5:∀i,i<t.len->∀(W:sH)(s':sI),cZ B W (t.ab i) s'->W.cell? ⟨0,0,none⟩=some (iB ea)->wH fD 138 #[pl (t.ab i).k (t.ab i).n s',.int .i64 (deep+1)] W (EV ea (t.ab i) d W)):
  wH fD 138 #[pl t.k t.n s,.int .i64 deep] w (EV ea t (d+1) w):=by
 have HR:=(show Hid _ from x5);have HH:=(show Hid _ from hh);have v9:=(show Hid (cZ B w t s) from hs);have c9:((t.len:Int)=fA t.k)/\¬t.n<eN t.k/\¬eP t.k<t.n:=by
  simp only[dT,cH,Nh,decide_eq_true_eq]at hh;exact⟨hh.1.2,by omega,by omega⟩
 obtain⟨h1,h2,h3⟩:=c9;have h5:¬4<deep:=by omega
 obtain⟨a,c,rfl⟩:=hs.sl;have HS:=(show Hid (mK t.k F) from H.shape);have HK:=(show Hid _ from H.kind);have b8:=H.meth;have d0:=H.enters;have bP:Bk ((w.alloc (.cells #[.int .i64 t.k,.int .i64 t.n,.slice a t.len c] 25)).alloc (.cells #[.nilIface,.slice none 0 0] 161)) w.heap.size #[.int .i64 t.k,.int .i64 t.n,.slice a t.len c] 25:=(Bk.new _ _ rfl).alloc _;have bR:Bk ((w.alloc (.cells #[.int .i64 t.k,.int .i64 t.n,.slice a t.len c] 25)).alloc (.cells #[.nilIface,.slice none 0 0] 161)) (w.heap.size+1) #[.nilIface,.slice none 0 0] 161:=Bk.new _ _ (by simp);have v4:Ga w.heap.size w ((w.alloc (.cells #[.int .i64 t.k,.int .i64 t.n,.slice a t.len c] 25)).alloc (.cells #[.nilIface,.slice none 0 0] 161)):=aG (aG (E0 _ _) _) _;clear hs H x5 hh;obtain⟨x0,x1,x2⟩:=bP.aK;go_enter jU,iC;go_wp2_with fail;generalize ((w.alloc (.cells #[.int .i64 t.k,.int .i64 t.n,.slice a t.len c] 25)).alloc (.cells #[.nilIface,.slice none 0 0] 161))=W0 at*;refine (HK.out t.n _ _).mono ?_;rintro e w1 ⟨rfl,Y⟩;have v8:=bP.keep Y;have v6:=bR.keep Y;have y5:=aH v4 Y;clear x0 x1 x2 bP bR v4 Y;go_wp2_with fail;refine (HS.out t.n _ hn.1 hn.2).mono ?_;rintro e R ⟨⟨sx,rfl⟩,V⟩;have bS:Bk (R.alloc (.cells #[.string sx,.int .i64 (fA t.k),.int .i64 (eN t.k),.int .i64 (eP t.k)] 217)) R.heap.size #[.string sx,.int .i64 (fA t.k),.int .i64 (eN t.k),.int .i64 (eP t.k)] 217:=Bk.new _ _ rfl;have U:Ga R.heap.size R (R.alloc (.cells #[.string sx,.int .i64 (fA t.k),.int .i64 (eN t.k),.int .i64 (eP t.k)] 217)):=aG (E0 _ _) _;have y9:=(v8.keep V).keep U;have y8:=(v6.keep V).keep U;have a8:=aH (aH y5 V) U;clear V U v8 v6 y5 b8 d0
 go_upto_region 5 with fail
 generalize (R.alloc (.cells #[.string sx,.int .i64 (fA t.k),.int .i64 (eN t.k),.int .i64 (eP t.k)] 217))=W3 at*;generalize R.heap.size=sb at*;obtain⟨x0,x1,x2⟩:=y9.aK;obtain⟨s0,s1,s2,s3⟩:=bS.da;have bN:Bk (W3.alloc (.cells #[eS t,.slice none 0 0] 161)) W3.heap.size #[eS t,.slice none 0 0] 161:=Bk.new _ _ rfl;have v7:=y9.alloc (.cells #[eS t,.slice none 0 0] 161);obtain⟨z0,z1,z2⟩:=v7.aK;have v5:=y8.alloc (.cells #[eS t,.slice none 0 0] 161);have y4:=aG a8 (.cells #[eS t,.slice none 0 0] 161);have c4:=y8.lt;clear y9 bS y8 HS HK v7;go_wp2_with fail;generalize (W3.alloc (.cells #[eS t,.slice none 0 0] 161))=W4 at*;generalize W3.heap.size=b9 at*;clear x0 x1 x2 z0 z1 z2 s0 s1 s2 s3
 go_loopw [56] (fun i wr=>∃k:Nat,i=.int .i64 k/\ON ea t d w b9 k (.slice a t.len c) wr) (fun i _=>t.len-(intOf i).toNat)
 case atStart=>exact⟨0,rfl,P2 _,⟨_,[],rfl,bN,sH.ownsRow_nil _ _ _ _,fun j a x h=>by simp at h⟩,fun j hj=>absurd hj (by omega),v5,c4,y4⟩
 case round=>
  obtain⟨k,rfl,HI⟩:=hrel;obtain⟨k0,⟨sl,ps,u8,J,x7,u4⟩,x6,I,h9,Z⟩:=HI;have HP:=(show Hid _ from u4);have HO:=(show Hid (wr.ownsRow (b9+1) 161 2 sl k (zH ps)) from x7);have z4:=(show Hid _ from x6);clear x7 u4 x6 bN v5 y4
  by_cases N:k<t.len
  ·have ik:((k:Int)<(t.len:Int)):=by omega
   obtain⟨g,off,sx,rfl,k1,c0,c1,c2,x9,b2,m2,d2,rfl⟩:=(v9.out.keep Z).at N;have bx:=Bk.new (w:=wr) #[.int .i64 (t.ab k).k,.int .i64 (t.ab k).n,.slice b2 m2 d2] 25 rfl;have O:Ga wr.heap.size wr (wr.alloc (.cells #[.int .i64 (t.ab k).k,.int .i64 (t.ab k).n,.slice b2 m2 d2] 25)):=aG (E0 _ _) _;have v2:=x9.keep O;have v3:=cB (aH Z O) hg;have w4:=HR.out k N _ _ v2 v3;have w3:=(show Hid _ from w4);have f8:¬(9223372036854775807:Int)<deep+1:=by omega
   obtain⟨q0,q1,q2⟩:=bx.aK;have y3:=aH Z O;clear w4 v2 x9 v9;go_wp2_with fail;refine wH.mono w3.out ?_;rintro e M ⟨v0,y6⟩;have A:Ga wr.heap.size wr M:=aH O y6;have y2:=aH y3 y6;have u0:(wr.alloc (.cells #[.int .i64 (t.ab k).k,.int .i64 (t.ab k).n,.slice b2 m2 d2] 25)).heap.size=wr.heap.size+1:=by simp
   rw[u0]at v0;clear w3 q0 q1 q2 v3 bx O y3 y6 c0 c1 c2 u0
   rcases v0 with⟨hp,G,D,c3,rfl,L⟩|⟨hp,rfl⟩
   ·have H8:Hid (Ga wr.heap.size wr ((M.alloc (.cells #[eS (t.ab k),.slice G D c3] 161)).alloc (.cells #[eS (t.ab k),.slice G D c3] 161))):=aG (aG A _) _;have e9:=(Bk.new (w:=M) #[eS (t.ab k),.slice G D c3] 161 rfl);have e7:=J.keep (aG A (.cells #[eS (t.ab k),.slice G D c3] 161));have e6:=J.keep H8.out;have b0:Bk ((M.alloc (.cells #[eS (t.ab k),.slice G D c3] 161)).alloc (.cells #[eS (t.ab k),.slice G D c3] 161)) (M.heap.size+1) #[eS (t.ab k),.slice G D c3] 161:=Bk.new _ _ (by simp);have S:=zK HO.out fun x _ hx=>H8.out.block x hx;have x8:jY (fun g=>wr.heap.size<=g) ((M.alloc (.cells #[eS (t.ab k),.slice G D c3] 161)).alloc (.cells #[eS (t.ab k),.slice G D c3] 161)) (t.ab k) (.slice G D c3):=L.move fun x hx hl=>⟨by omega,((aG (aG (E0 M.heap.size M) (.cells #[eS (t.ab k),.slice G D c3] 161)) (.cells #[eS (t.ab k),.slice G D c3] 161))).block x hl⟩;have f6:=(show Hid _ from x8);have j4:=A.size;have k2:=J.lt;have v1:sl.ownBlock≠some b9:=fun e=>by have:=(HO.out.lt _ e).1;omega
    have f5:=(show Hid _ from v1);obtain⟨p0,p1,_,_⟩:=e9.two;obtain⟨q0,q1,_,_⟩:=e7.two;have j3:=PT.bp t;have a6:=u8.symm;subst a6;have f2:=(show Hid _ from S);clear x8 L v1 S
    go_wp2_with (at_builtin;go_must (refine Oy _ rfl _ _ rfl (b9+1) _ ps rfl f2.out _ _ _ _ _ _ rfl b0 (by omega) (by simp;omega) ?_);intro g9 i2 w9 a2 T a7 j5;have e8:=n9 e6 T f5.out;obtain⟨y0,y1,f0,f1⟩:=e8.two)
    refine⟨⟨ps.length+1,by go_num,KH N rfl J HO.out HP.out z4.out I h9 Z H8.out f6.out hp a2 T a7⟩,?_⟩;simp[intOf];omega
   ·have bo:=((I.keep A).alloc (.cells #[.nilIface,.slice none 0 0] 161)).ag .nilIface (.slice none 0 0);have br:=((I.keep A).alloc (.cells #[.nilIface,.slice none 0 0] 161));obtain⟨r0,r1,f0,f1⟩:=br.two;obtain⟨y0,y1,_,_⟩:=bo.two;have HB:Hid (Ga w.heap.size w (((M.alloc (.cells #[.nilIface,.slice none 0 0] 161)).setCell ⟨w.heap.size+1,0,none⟩ .nilIface).setCell ⟨w.heap.size+1,1,none⟩ (.slice none 0 0))):=(((aG y2 _).setCell (by simp) _).setCell (by simp) _);have HX:Hid (d7 t (d+1)=false):=Fy N hp;clear bo br y2 A J I;go_wp2_with fail;refine sG (v:= .tuple #[G8,iB ea]) (by simp[results,gZ,go_sem,y0,y1];try rfl) rfl ?_;exact⟨.inr ⟨HX.out,rfl⟩,HB.out⟩
  ·obtain rfl:k=t.len:=by omega
   have ik:¬((t.len:Int)<(t.len:Int)):=by omega
   obtain⟨q0,q1,_,_⟩:=J.two;obtain⟨r0,r1,f0,f1⟩:=I.two;have bo:=I.ag (eS t) sl;obtain⟨y0,y1,_,_⟩:=bo.two;have HB:Hid (Ga w.heap.size w ((wr.setCell ⟨w.heap.size+1,0,none⟩ (eS t)).setCell ⟨w.heap.size+1,1,none⟩ sl)):=((Z.setCell (by simp) _).setCell (by simp) _);have x4:∀x,x≠w.heap.size+1->((wr.setCell ⟨w.heap.size+1,0,none⟩ (eS t)).setCell ⟨w.heap.size+1,1,none⟩ sl).heap[x]?=wr.heap[x]?:=fun x hx=>(EJ _ _ _ _ hx).trans (EJ _ _ _ _ hx);have L:jY (fun g=>w.heap.size<=g) ((wr.setCell ⟨w.heap.size+1,0,none⟩ (eS t)).setCell ⟨w.heap.size+1,1,none⟩ sl) t sl:=(Nm (q:=fun g=>b9<g) HO.out u8 HP.out (fun g h=>h) (fun g h=>h.1)).move fun x hx _=>⟨by omega,x4 x (by omega)⟩;obtain⟨a5,c5,e5⟩:=L.sl;subst e5;have HX:Hid (d7 t (d+1)=true):=Bj HH.out z4.out;have f4:=(show Hid _ from L);clear bo x4 L HO HP z4 J I Z;go_wp2_with fail;refine sG (v:= .tuple #[.agg #[eS t,.slice a5 t.len c5],.nilIface]) (by simp[results,gZ,go_sem,y0,y1];try rfl) rfl ?_;exact⟨.inl ⟨HX.out,_,_,_,rfl,f4.out⟩,HB.out⟩
theorem GZ (I:wR):∀(d:Nat)(t:PT){B:Nat}{s:sI}{w:sH}(deep:Int),deep+d=5->d<=4->t.sm->cZ B w t s->w.cell? ⟨0,0,none⟩=some (iB I)->wH fD 138 #[pl t.k t.n s,.int .i64 deep] w (EV I t d w):=by
 intro d
 induction d with
 | zero=>
  intro t B s w deep h1 _ A hs hg;have hp:=rF t
  by_cases D:cH t.k 1 6=true
  ·obtain⟨F,H⟩:=FY D;refine (Ab I H (PT.dc A) hs hg (.inl (by omega))).mono ?_;rintro e w' ⟨rfl,G⟩;exact⟨.inr ⟨hp,rfl⟩,G⟩
  ·have J:t.k<1\/6<t.k:=by simp[cH]at D;omega
   obtain⟨a,c,e⟩:=hs.sl;refine (zA I ⟨a,_,c,e⟩ J hg).mono ?_;rintro e w' ⟨rfl,G⟩;exact⟨.inr ⟨hp,rfl⟩,G⟩
 | succ d ih=>
  intro t B s w deep h1 h4 A hs hg
  by_cases D:cH t.k 1 6=true
  ·obtain⟨F,H⟩:=FY D;cases L:dT t
   ·refine (Ab I H (PT.dc A) hs hg ?_).mono ?_
    ·have:¬((t.len:Int)=fA t.k/\eN t.k<=t.n/\t.n<=eP t.k):=by
      intro hx;have:dT t=true:=by simp[dT,D,hx.1];simp[cH,hx.2.1,hx.2.2]
      rw[L]at this;cases this
     omega
    ·rintro e w' ⟨rfl,G⟩;exact⟨.inr ⟨AA L,rfl⟩,G⟩
   ·exact FF I H (PT.dc A) hs hg L (by omega) (by omega) fun i hi W s' hs' M=>ih (t.ab i) (deep+1) (by omega) (by omega) (PT.de A hi) hs' M
  ·have J:t.k<1\/6<t.k:=by simp[cH]at D;omega
   obtain⟨a,c,e⟩:=hs.sl;refine (zA I ⟨a,_,c,e⟩ J hg).mono ?_;rintro e w' ⟨rfl,G⟩;exact⟨.inr ⟨AA (by simp[dT,D]),rfl⟩,G⟩
theorem zZ (k:Int)(w:sH):wH fD 226 #[.int .i64 k] w fun e w'=>e=.returned (.tuple #[.int .i64 (fA k),.int .i64 (eN k),.int .i64 (eP k)])/\w'=w:=by
 have D:k=1\/k=2\/k=3\/k=4\/k=5\/k=6\/(k<1\/6<k):=by omega
 go_enter Tryz.func226,Tryz.ntmps226
 rcases D with rfl|rfl|rfl|rfl|rfl|rfl|D
 case inr.inr.inr.inr.inr.inr=>
  have n1:¬k=1:=by omega
  have n2:¬k=2:=by omega
  have H:¬k=3:=by omega
  have G:¬k=4:=by omega
  have F:¬k=5:=by omega
  have A:¬k=6:=by omega
  have L:fA k = -1:=by simp[fA,n1,n2,H,G,F,A]
  have J:eN k=0:=by simp[eN,n2,A]
  have I:eP k=0:=by simp[eP,n1,n2,A]
  clear D;go_wp2_with fail;refine sG (by simp[results,kX,go_sem];try rfl) rfl ?_;exact⟨by rw[L,J,I],rfl⟩
 all_goals
  go_wp2_with fail;refine sG (by simp[results,kX,go_sem];try rfl) rfl ?_;exact⟨rfl,rfl⟩
def Ba (t:PT)(d:Nat)(w:sH)(e:Ending)(w':sH):Prop:=e=.returned (.bool (d7 t d))/\Ga w.heap.size w w'
theorem Df {t:PT}(hd:d<=4)(hs:cZ B w t s)(F:d<1\/dT t=false):wH fD 175 #[pl t.k t.n s,.int .i64 d] w fun e w'=>e=.returned (.bool false)/\Ga w.heap.size w w':=by
 have G:Bk (w.alloc (.cells #[.int .i64 t.k,.int .i64 t.n,s] 25)) w.heap.size #[.int .i64 t.k,.int .i64 t.n,s] 25:=Bk.new _ _ rfl;have A:Ga w.heap.size w (w.alloc (.cells #[.int .i64 t.k,.int .i64 t.n,s] 25)):=aG (E0 _ _) _;obtain⟨R,O,N⟩:=G.aK;obtain⟨a,c,rfl⟩:=hs.sl;have M:((d:Int)<1)\/(¬(d:Int)<1/\¬(t.len:Int)=fA t.k)\/(¬(d:Int)<1/\(t.len:Int)=fA t.k/\cH t.n (eN t.k) (eP t.k)=false):=by
  rcases F with h|h
  ·exact .inl (by omega)
  ·rcases Oz d 1 with h1|h1
   ·exact .inl (by omega)
   ·by_cases h2:(t.len:Int)=fA t.k
    ·refine .inr (.inr ⟨by omega,h2,?_⟩)
     by_cases D:cH t.k 1 6=true
     ·simp only[dT,D,h2,decide_true,Bool.true_and,Bool.and_self]at h;exact h
     ·exfalso
      have:fA t.k = -1:=by
       simp[cH]at D;have n1:¬t.k=1:=by omega
       have n2:¬t.k=2:=by omega
       have L:¬t.k=3:=by omega
       have J:¬t.k=4:=by omega
       have I:¬t.k=5:=by omega
       have H:¬t.k=6:=by omega
       simp[fA,n1,n2,L,J,I,H]
      omega
    ·exact .inr (.inl ⟨by omega,h2⟩)
 clear hs F G;go_enter rN,lI;go_wp2_with fail;refine (zZ t.k _).mono ?_;rintro e w1 ⟨rfl,rfl⟩
 rcases M with h1|⟨h1,h2⟩|⟨h1,h2,h3⟩
 ·go_wp2_with fail;go_ret;exact⟨rfl,A⟩
 ·go_wp2_with fail;go_ret;exact⟨rfl,A⟩
 ·go_wp2_with fail;refine (rQ _ _ _ _).mono ?_;rintro e w1 ⟨rfl,rfl⟩;rw[h3];go_wp2_with fail;go_ret;exact⟨rfl,A⟩
theorem I8 {t:PT}(hd:d<=3)(hs:cZ B w t s)(H:dT t=true)
  (D:∀i,i<t.len->∀(W:sH)(s':sI),cZ B W (t.ab i) s'->wH fD 175 #[pl (t.ab i).k (t.ab i).n s',.int .i64 d] W (Ba (t.ab i) d W)):wH fD 175 #[pl t.k t.n s,.int .i64 ((d+1:Nat):Int)] w (Ba t (d+1) w):=by
 have bP:Bk (w.alloc (.cells #[.int .i64 t.k,.int .i64 t.n,s] 25)) w.heap.size #[.int .i64 t.k,.int .i64 t.n,s] 25:=Bk.new _ _ rfl;have I:Ga w.heap.size w (w.alloc (.cells #[.int .i64 t.k,.int .i64 t.n,s] 25)):=aG (E0 _ _) _;obtain⟨T,S,R⟩:=bP.aK;have x4:=(show Hid _ from hs.keep I);obtain⟨a,c,rfl⟩:=hs.sl;have HR:=(show Hid _ from D);have HH:=(show Hid _ from H);have V:((t.len:Int)=fA t.k)/\cH t.n (eN t.k) (eP t.k)=true:=by
  simp only[dT,Nh,decide_eq_true_eq]at H;exact⟨H.1.2,H.2⟩
 obtain⟨h2,h3⟩:=V;have y0:=PT.bp t;have L:((d+1:Nat):Int)=(d:Int)+1:=by omega
 have h1:¬((d:Int)+1<1):=by omega
 have y3:((d:Int)+1)-1=(d:Int):=by omega
 rw[L];clear hs D H L;go_enter rN,lI;go_wp2_with fail;refine (zZ t.k _).mono ?_;rintro e w1 ⟨rfl,rfl⟩;go_wp2_with fail;refine (rQ _ _ _ _).mono ?_;rintro e w1 ⟨rfl,rfl⟩;rw[h3];go_wp2_with fail;generalize (w.alloc (.cells #[.int .i64 t.k,.int .i64 t.n,.slice a t.len c] 25))=W0 at*;clear T S R
 go_loopw [8] (fun i wr=>∃k:Nat,i=.int .i64 k/\k<=t.len/\(∀j,j<k->d7 (t.ab j) d=true)/\Ga W0.heap.size W0 wr) (fun i _=>t.len-(intOf i).toNat)
 case atStart=>exact⟨0,rfl,P2 _,fun j U=>absurd U (by omega),E0 _ _⟩
 case round=>
  obtain⟨k,rfl,y1,F,J⟩:=hrel;have N:=(show Hid _ from F);clear F;have Z:=bP.keep J;obtain⟨T,S,R⟩:=Z.aK
  by_cases A:k<t.len
  ·have ik:((k:Int)<(t.len:Int)):=by omega
   obtain⟨g,off,sx,rfl,y2,c0,c1,c2,G,b2,m2,d2,rfl⟩:=(x4.out.keep J).at A;have HC:=(show Hid _ from HR.out k A wr _ G);clear G;go_wp2_with fail;refine wH.mono HC.out ?_;rintro e w7 ⟨rfl,Y⟩;have M:=aH J Y;cases hp:d7 (t.ab k) d
   ·have O:Hid (d7 t (d+1)=false):=Fy A hp;go_wp2_with fail;go_ret;exact⟨by rw[O.out];rfl,aH I M⟩
   ·have HN:Hid (∀j,j<k+1->d7 (t.ab j) d=true):=fun j U=>by
     rcases Oz j k with h|h
     ·exact N.out j h
     ·obtain rfl:j=k:=by omega
      exact hp
    go_wp2_with fail;go_roundw
    case rel=>exact⟨k+1,by go_num,by omega,HN.out,M⟩
    case measure=>simp[intOf];omega
  ·obtain rfl:k=t.len:=by omega
   have ik:¬((t.len:Int)<(t.len:Int)):=by omega
   have O:Hid (d7 t (d+1)=true):=Bj HH.out N.out;go_wp2_with fail;go_ret;exact⟨by rw[O.out];rfl,aH I J⟩
theorem IB:∀(d:Nat)(t:PT){B:Nat}{s:sI}{w:sH},d<=4->cZ B w t s->wH fD 175 #[pl t.k t.n s,.int .i64 d] w (Ba t d w):=by
 intro d
 induction d with
 | zero=>
  intro t B s w hd hs;refine (Df hd hs (.inl (by omega))).mono ?_;rintro e w' ⟨rfl,D⟩;exact⟨by rw[rF],D⟩
 | succ d ih=>
  intro t B s w hd hs;cases A:dT t
  ·refine (Df hd hs (.inr A)).mono ?_;rintro e w' ⟨rfl,D⟩;exact⟨by rw[AA A],D⟩
  ·exact I8 (by omega) hs A fun i _ W s' hs'=>ih (t.ab i) (by omega) hs'
theorem uB {t:PT}(hs:cZ B w t s):
  wH fD 102 #[pl t.k t.n s] w fun e w'=>e=.returned (.bool (d7 t 4))/\Ga w.heap.size w w':=by
 have F:Bk (w.alloc (.cells #[.int .i64 t.k,.int .i64 t.n,s] 25)) w.heap.size #[.int .i64 t.k,.int .i64 t.n,s] 25:=Bk.new _ _ rfl;have A:Ga w.heap.size w (w.alloc (.cells #[.int .i64 t.k,.int .i64 t.n,s] 25)):=aG (E0 _ _) _;obtain⟨J,I,H⟩:=F.aK;have G:=(show Hid _ from IB 4 t (by omega) (hs.keep A));obtain⟨a,c,rfl⟩:=hs.sl;clear hs F;go_enter Tryz.func102,Tryz.ntmps102;go_wp2_with fail;refine wH.mono G.out ?_;rintro e w1 ⟨rfl,D⟩;go_wp2_with fail;go_ret;exact⟨rfl,aH A D⟩
end Go.Proofs.YtbdpcngcbnoioaaGreatDoor
