import Derived.Test.YtbdpcngcbnoioaaGreatDoorGa5
import Derived.Test.YtbdpcngcbnoioaaGreatDoorGa3
import Derived.Deep.RegionWith
import Derived.Test.YtbdpcngcbnoioaaGreatDoorGa4
set_option maxRecDepth 100000
set_option maxHeartbeats 16000000
namespace Go.Proofs.YtbdpcngcbnoioaaGreatDoor
open Go.RowKit
open _root_.List renaming range_succ->fD,range->fH,flatMap_cons->fV,filter_append->gY,map_append->gZ,filter_nil->iC,any_append->jU,map_nil->kR
open Go renaming World->kX,wpQuiet_nil->lI,Value->lY,Calls->mF,lt_of_block->mJ,wpList_append_lies->nU
open Go.RowKit renaming Below->oJ
open Go.RowKit.Below renaming refl->oO
open Go.Proofs.Tryz renaming prog->qA,underlying27->rN
open _root_.Nat renaming le_trans->sE,add_assoc->sG,zero_add->sH,le_refl->sI
variable {B g j k n s:Nat}{e:TypeId}{l:LI}{v:lY}{w w' w1:kX}{x y:Int}{xs:List lY}
attribute [local go_sem ↓] Go.wp_at_zero Go.wp_at_succ
attribute [local go_sem ↓] Go.wp_at_zero Go.wp_at_succ
def dU (l:LI)(x y:Int):Bool:=(fH l.length).any fun i=>cV (tA l i) (tB l i) x y
theorem uR (A:k<l.length)(h:cV (tA l k) (tB l k) x y=true):dU l x y=true:=by
 unfold dU;rw[List.any_eq_true];exact⟨k,by simpa using A,h⟩
theorem xX (h:∀j,j<l.length->cV (tA l j) (tB l j) x y=false):dU l x y=false:=by
 unfold dU;rw[List.any_eq_false];intro j A;rw[h j (by simpa using A)];simp
def Fk (w:kX)(k:Nat):Prop:=w.heap[k]?=some (.cells #[.func (.func 90) #[] #[]] 112 (0,0))
theorem Fk.keep (h:Fk w k)(A:oJ w.heap.size w w1):Fk w1 k:=by
 unfold Fk;rw[A.block k (mJ h)];exact h
theorem Fk.cell (h:Fk w k):w.cell? ⟨k,0,none⟩=some (.func (.func 90) #[] #[]):=cell_of_one h
theorem IS (a b x y:Int)(D A:Nat)(w:kX)(hf:Fk w D)(hx:Bk w A #[.int .i64 x,.int .i64 y] 32):
  mF qA 158 #[tv a b,.pointer (some ⟨D,0,none⟩),.pointer (some ⟨A,0,none⟩)] w fun e w'=>e=.returned (.bool (cV a b x y))/\oJ w.heap.size w w':=by
 have L:=hf.cell;obtain⟨G,F,_,_⟩:=hx.two;have I:=mJ hf;have H:=hx.lt;go_enter Tryz.func158,Tryz.ntmps158
 go_wp2_with (go_at_call 90;refine (rR _ _ _ _ _).mono ?_;rintro e w' ⟨rfl,J⟩)
 go_ret;refine⟨rfl,?_⟩
 repeat' (first|(with_reducible exact oO _ _)|(with_reducible assumption)|(with_reducible refine aH ?_ (by with_reducible assumption))|(with_reducible refine aG ?_ _)|(with_reducible refine oJ.drew ?_)|(with_reducible refine dC ?_ _)|(with_reducible refine oJ.setCell ?_ ?_ _)|(simp;done)|(simp;omega)|omega)
theorem EZ {a b:Int}{r:Bool}(h:cV a b x y=r){D A:Nat}(hf:Fk w D)(hx:Bk w A #[.int .i64 x,.int .i64 y] 32):
  mF qA 158 #[tv a b,.pointer (some ⟨D,0,none⟩),.pointer (some ⟨A,0,none⟩)] w fun e w'=>e=.returned (.bool r)/\oJ w.heap.size w w':=by
 rw[<- h];exact IS a b x y D A w hf hx
def Fa (p:Nat->Bool)(n:Nat)(r:Int):Prop:=(r = -1/\∀i,i<n->p i=false)\/∃k:Nat,r=k/\k<n/\p k=true/\∀i,i<k->p i=false
theorem Hn (v:lY)(l:LI)(x y:Int)(T S:Nat)(w:kX)(h:Ts w v l)(hf:Fk w T)(hx:Bk w S #[.int .i64 x,.int .i64 y] 32):
  mF qA 204 #[v,.func (.func 158) #[] #[.pointer (some ⟨T,0,none⟩),.pointer (some ⟨S,0,none⟩)]] w fun e w'=>∃r:Int,e=.returned (.int .i64 r)/\Fa (fun i=>cV (tA l i) (tB l i) x y) l.length r/\oJ w.heap.size w w':=by
 obtain⟨a,h9,rfl,hc,hm,hn,A⟩:=h;unfold maxLen at hm;have Z:=(show Hid _ from A);clear A;go_enter Tryz.func204,Tryz.ntmps204;go_wp2_with fail
 go_loopw [8] (fun i wr=>∃k:Nat,k<=l.length/\i=.int .i64 k/\(∀j,j<k->cV (tA l j) (tB l j) x y=false)/\oJ w.heap.size w wr) (fun i _=>l.length-(intOf i).toNat)
 case atStart=>exact⟨0,by omega,rfl,fun j W=>by omega,oO _ _⟩
 case round=>
  obtain⟨k,hk,rfl,H,D⟩:=hrel;have N:=(show Hid _ from H);clear H
  by_cases J:k<l.length
  ·obtain⟨g,off,rfl,hg,R,c1⟩:=Z.out k J;have d0:=cB D R;have d1:=cB D c1;clear R c1;generalize Q:tA l k=X at*;generalize O:tB l k=Y at*;have V:Hid (tA l k=X):=Q;have U:Hid (tB l k=Y):=O;clear Q O;have L:=hf.keep D;have I:=hx.keep D;cases hp:cV X Y x y
   ·have M:Hid (cV (tA l k) (tB l k) x y=false):=by show _=false;rw[V.out,U.out];exact hp
    go_wp2_with fail;refine (EZ hp L I).mono ?_;rintro e w1 ⟨rfl,G⟩;have F:=aH D G;go_wp2_with fail;go_roundw
    case rel=>
     refine⟨k+1,by omega,by go_num,fun j W=>?_,F⟩
     by_cases e:j=k
     ·subst e;exact M.out
     ·exact N.out j (by omega)
    case measure=>simp[intOf];omega
   ·have M:Hid (cV (tA l k) (tB l k) x y=true):=by show _=true;rw[V.out,U.out];exact hp
    go_wp2_with fail;refine (EZ hp L I).mono ?_;rintro e w1 ⟨rfl,G⟩;have F:=aH D G;go_wp2_with fail;go_ret;exact⟨_,rfl,.inr ⟨k,rfl,J,M.out,N.out⟩,F⟩
  ·go_wp2_with fail;go_ret;exact⟨_,rfl,.inl ⟨rfl,fun i hi=>N.out i (by omega)⟩,D⟩
theorem Cp (v:lY)(l:LI)(x y:Int)(H G:Nat)(w:kX)(h:Ts w v l)(hf:Fk w H)(hx:Bk w G #[.int .i64 x,.int .i64 y] 32):
  mF qA 157 #[v,.func (.func 158) #[] #[.pointer (some ⟨H,0,none⟩),.pointer (some ⟨G,0,none⟩)]] w fun e w'=>e=.returned (.bool (dU l x y))/\oJ w.heap.size w w':=by
 go_enter Tryz.func157,Tryz.ntmps157;go_wp2_with fail;refine (Hn v l x y H G w h hf hx).mono ?_;rintro e w1 ⟨r,rfl,hr,I⟩
 rcases hr with⟨rfl,F⟩|⟨k,rfl,J,D,_⟩
 ·have A:Hid (dU l x y=false):=xX F;clear F;go_wp2_with fail;go_ret;exact⟨rB A.out.symm,I⟩
 ·have A:Hid (dU l x y=true):=uR J D;have L:(0:Int)<=(k:Int):=by omega
  clear D;go_wp2_with fail;go_ret;refine⟨?_,I⟩;rw[A.out];exact rB (by simp)
theorem zN (v:lY)(l:LI)(x y:Int)(w:kX)(h:Ts w v l):
  mF qA 89 #[v,tv x y,.func (.func 90) #[] #[]] w fun e w'=>e=.returned (.bool (dU l x y))/\oJ w.heap.size w w':=by
 have A:oJ w.heap.size w ((w.alloc (.cells #[.int .i64 x,.int .i64 y] 32)).alloc (.cells #[.func (.func 90) #[] #[]] 112)):=aG (aG (oO _ _) _) _;have hx:Bk ((w.alloc (.cells #[.int .i64 x,.int .i64 y] 32)).alloc (.cells #[.func (.func 90) #[] #[]] 112)) w.heap.size #[.int .i64 x,.int .i64 y] 32:=(Bk.new _ _ rfl).alloc _;have hf:Fk ((w.alloc (.cells #[.int .i64 x,.int .i64 y] 32)).alloc (.cells #[.func (.func 90) #[] #[]] 112)) (w.heap.size+1):=by
  have:=heap_alloc_new (w.alloc (.cells #[.int .i64 x,.int .i64 y] 32)) (.cells #[.func (.func 90) #[] #[]] 112)
  simpa[Fk]using this
 go_enter Tryz.func89,Tryz.ntmps89;go_wp2_with fail;refine (Cp v l x y _ _ _ (h.keep A) hf hx).mono ?_;rintro e w1 ⟨rfl,D⟩;go_wp2_with fail;go_ret;exact⟨rfl,aH A D⟩
theorem BI (v:lY)(l:LI)(x y:Int)(w:kX)(h:Ts w v l):
  mF qA 29 #[v,tv x y] w fun e w'=>e=.returned (.bool (cC l&&dU l x y))/\oJ w.heap.size w w':=by
 have F:oJ w.heap.size w (w.alloc (.cells #[.int .i64 x,.int .i64 y] 32)):=aG (oO _ _) _;have H:Bk (w.alloc (.cells #[.int .i64 x,.int .i64 y] 32)) w.heap.size #[.int .i64 x,.int .i64 y] 32:=Bk.new _ _ rfl;go_enter Tryz.func29,Tryz.ntmps29;go_wp2_with fail;refine (oC v l _ (h.keep F)).mono ?_;rintro e w1 ⟨rfl,D⟩;have A:=aH F D;obtain⟨J,c1,_,_⟩:=(H.keep D).two;cases hf:cC l
 ·go_wp2_with fail;go_ret;exact⟨rB (by simp[hf]),A⟩
 ·go_wp2_with fail;refine (zN v l x y _ (h.keep A)).mono ?_;rintro e I ⟨rfl,G⟩;go_wp2_with fail;go_ret;exact⟨rB (by simp[hf]),aH A G⟩
theorem iS {a b c d:Int}{r:Bool}(h:cV a b c d=r)(w:kX):mF qA 129 #[tv a b,tv c d] w fun e w'=>e=.returned (.bool r)/\oJ w.heap.size w w':=by
 rw[<- h];exact DX a b c d w
theorem Bc (v:lY)(l:LI)(x y:Int)(w:kX)(h:Ts w v l):
  mF qA 62 #[v,tv x y] w fun e w'=>e=.returned (.bool (cC l&&dU l x y))/\oJ w.heap.size w w':=by
 have I:oJ w.heap.size w (w.alloc (.cells #[.int .i64 x,.int .i64 y] 32)):=aG (oO _ _) _;have V:Bk (w.alloc (.cells #[.int .i64 x,.int .i64 y] 32)) w.heap.size #[.int .i64 x,.int .i64 y] 32:=Bk.new _ _ rfl;go_enter Tryz.func62,Tryz.ntmps62;go_wp2_with fail;refine (tI v l _ (h.keep I)).mono ?_;rintro e w1 ⟨rfl,H⟩;have F:=aH I H;have O:=V.keep H;cases hf:cC l
 ·go_wp2_with fail;go_ret;exact⟨rB (by simp[hf]),F⟩
 obtain⟨a,x2,rfl,hc,hm,hn,D⟩:=h.keep F;unfold maxLen at hm;have HC:=(show Hid _ from D);have HF:Hid (cC l=true):=hf;clear D V I H hf;go_wp2_with fail
 go_loopw [5] (fun i wr=>∃k:Nat,k<=l.length/\i=.int .i64 k/\(∀j,j<k->cV (tA l j) (tB l j) x y=false)/\oJ w1.heap.size w1 wr) (fun i _=>l.length-(intOf i).toNat)
 case atStart=>exact⟨0,by omega,rfl,fun j Q=>by omega,oO _ _⟩
 case round=>
  obtain⟨k,hk,rfl,J,G⟩:=hrel;have W:=(show Hid _ from J);clear J;have N:=aH F G
  by_cases M:k<l.length
  ·obtain⟨g,off,rfl,hg,U,c1⟩:=HC.out k M;generalize T:tA l k=X at*;generalize S:tB l k=Y at*;have EX:Hid (tA l k=X):=T;have Z:Hid (tB l k=Y):=S;clear T S;have d0:∀p:dH wr,p.ww.cell? ⟨g,off+k*2,none⟩=some (.int .i64 X):=fun p=>cB p.below (cB G U);have d1:∀p:dH wr,p.ww.cell? ⟨g,off+k*2+1,none⟩=some (.int .i64 Y):=fun p=>cB p.below (cB G c1);have e0:=(O.keep G).cw;have e1:=(O.keep G).cu;have hne:=jC wr;have ik:((k:Int)<(l.length:Int)):=by omega
   clear U c1;cases hp:cV X Y x y
   ·have L:Hid (cV (tA l k) (tB l k) x y=false):=by show _=false;rw[EX.out,Z.out];exact hp
    go_wp2_with fail
    (refine jJ (by kernel_rfl) (by kernel_rfl) ?_;(repeat (go_big_quiet_step ((first|(go_at_call 129;exact iJ (iS (by with_reducible assumption) _))))));refine lI ?_)
    intro w2 A
    replace A:=jM A
    have R:=aH G A;go_wp2_with fail;go_roundw
    case rel=>
     refine⟨k+1,by omega,by go_num,fun j Q=>?_,R⟩
     by_cases e:j=k
     ·subst e;exact L.out
     ·exact W.out j (by omega)
    case measure=>simp[intOf];omega
   ·have L:Hid (dU l x y=true):=uR M (by rw[EX.out,Z.out];exact hp);go_wp2_with fail
    (refine jJ (by kernel_rfl) (by kernel_rfl) ?_;(repeat (go_big_quiet_step ((first|(go_at_call 129;exact iJ (iS (by with_reducible assumption) _))))));refine lI ?_)
    intro w2 A
    replace A:=jM A
    go_wp2_with fail;go_ret;exact⟨rB (by rw[HF.out,L.out];rfl),aH N A⟩
  ·have L:Hid (dU l x y=false):=xX fun j Q=>W.out j (by omega);go_wp2_with fail;go_ret;exact⟨rB (by rw[L.out];simp),N⟩
def jG (l:LI):List lY:=l.flatMap fun p=>[.int .i64 p.1,.int .i64 p.2]
theorem vW (l:LI):(jG l).length=l.length*2:=by
 induction l with
 | nil=>rfl
 | cons p l ih=>unfold jG at*;simp[fV,ih];omega
theorem iM (l:LI)(a b:Int):jG (l++[(a,b)])=jG l++[.int .i64 a,.int .i64 b]:=by
 unfold jG;rw[List.flatMap_append];simp
theorem oF (l:LI)(i:Nat)(h:i<l.length):(jG l)[i*2]?=some (.int .i64 (tA l i))/\(jG l)[i*2+1]?=some (.int .i64 (tB l i)):=by
 induction l generalizing i with
 | nil=>simp at h
 | cons p l ih=>
  cases i with
  | zero=>simp[jG,tA,tB,fV]
  | succ i=>
   have:=ih i (by simpa using h);have A:(i+1)*2=i*2+2:=by omega
   have D:(i+1)*2+1=i*2+1+2:=by omega
   rw[A]
   simpa[jG,fV,tA,tB]using this
abbrev aW (w:kX)(B:Nat)(v:lY)(l:LI):Prop:=w.ownsRow B 32 2 v l.length (jG l)
theorem aW.ts (h:aW w B v l)(hl:l.length<=2097152):Ts w v l:=by
 have A:=h;obtain⟨_,h2⟩:=h
 rcases h2 with⟨rfl,h0⟩|⟨g,D,H,rfl,hg,G,F,hm,_,_⟩
 ·have:l=[]:=List.eq_nil_of_length_eq_zero h0;subst this;exact⟨none,0,rfl,sI _,by unfold maxLen;omega,by simp,fun i hi=>by simp at hi⟩
 ·refine⟨_,D,rfl,F,hm,hl,fun i hi=>⟨g,0,rfl,mJ G,?_,?_⟩⟩
  ·rw[sH,A.cellAt _ (by omega)];exact (oF l i hi).1
  ·rw[sH,A.cellAt _ (by omega)];exact (oF l i hi).2
theorem A1 (h:w.ownsRow B e s v n xs)(G:∀k,B<=k->k<w.heap.size->w1.heap[k]?=w.heap[k]?):w1.ownsRow B e s v n xs:=by
 obtain⟨h1,h2⟩:=h;refine⟨h1,?_⟩
 rcases h2 with h2|⟨g,F,D,rfl,hg,A,r⟩
 ·exact .inl h2
 ·exact .inr ⟨g,F,D,rfl,hg,by rw[G g hg (mJ A)];exact A,r⟩
theorem oX (h:w.ownsRow B e s v n xs)(hx:Bx g w w1)(hg:g<B):w1.ownsRow B e s v n xs:=
 A1 h fun k A hs=>hx.block k hs (by omega)
theorem bJ (h:w.ownsRow B e s v n xs)(hx:oJ w.heap.size w w1):w1.ownsRow B e s v n xs:=
 A1 h fun k _ hs=>hx.block k hs
theorem bQ {B':Nat}(h:w.ownsRow B e s v n xs)(F:B'<=B):w.ownsRow B' e s v n xs:=by
 obtain⟨h1,h2⟩:=h;refine⟨h1,?_⟩
 rcases h2 with h2|⟨g,D,A,rfl,hg,r⟩
 ·exact .inl h2
 ·exact .inr ⟨g,D,A,rfl,by omega,r⟩
theorem Bx.bel (h:Bx g w w')(A:B<=w.heap.size)(hg:B<=g):oJ B w w':=h.below (oO _ _) A hg
theorem Bx.grown {a:kX}{A:Option Nat}(h:Bx g a w)(hg:w.grownBy w' A)(hr:∀k,A=some k->a.heap.size<=k):Bx g a w':=
 ⟨hg.os.trans h.os,hg.tape.trans h.tape,hg.output.trans h.output,sE h.size hg.size,fun k F D=>by
  have hs:=h.size;rw[hg.block k (by omega) (fun e=>by have:=hr k e.symm;omega)];exact h.block k F D⟩
theorem Rd.grown {p:Int}{A:Option Nat}(h:Rd B w g v n p)(hg:w.grownBy w' A)(hr:∀k,A=some k->g<k):Rd B w' g v n p:=by
 have hl:=h.blk.lt;have I:=h.here;have hs:=h.size;have same:∀k,k<=g->w'.heap[k]?=w.heap[k]?:=fun k H=>hg.block k (by omega) (fun e=>by have:=hr k e.symm;omega);refine⟨by unfold Bk;rw[same g (sI _)];exact h.blk,?_,h.few,h.here,sE h.size hg.size⟩;obtain⟨a,F,rfl,h1,h2,h3⟩:=h.bytes;refine⟨a,F,rfl,h1,h2,fun i hi=>?_⟩;obtain⟨b,off,z,rfl,D,G,h4,h5⟩:=h3 i hi;exact⟨b,off,z,rfl,D,by rw[kX.cell?_of_block (w:=w) (same b (by omega))];exact G,h4,h5⟩
theorem E9 {p:Int}(h:Rd B w g v n p)(hp:0<=p)(y6:p<=800000)(D:Int)(y8:0<=D)(y7:D<=100):
  mF qA 201 #[.pointer (some ⟨g,0,none⟩),.int .i64 D] w fun e w'=>∃(o:lY)(l:LI),e=.returned o/\l.length<=100/\aW w' w.heap.size o l/\(∃F:Int,p<=F/\F<=p+400/\Rd B w' g v n F)/\Bx g w w':=by
 obtain⟨i0,hi,h9,Z,Y⟩:=info_parts mW;have hg:=h.blk.lt;have hh:=h.here;have hs:=h.size;have h0:=h.aX (aG (oO _ _) (.cells #[] 32));have S:Bx g w (w.alloc (.cells #[] 32)):=(Bx.refl _ _).alloc _;have W:=lZ w 32 2;go_enter Tryz.func201,Tryz.ntmps201;go_wp2_with fail;refine (pA h0 hp (by omega) _ (by omega) (by omega)).mono ?_;rintro e w1 ⟨k,rfl,x6,z2,O,H⟩;have V:=oX W H hg;have R:=S.trans H;clear W S h0 H;go_wp2_with fail
 go_loopw [5,6] (fun o i wr=>∃(m:Nat)(l:LI)(F:Int),(m:Int)<=D/\i=.int .i64 m/\(l.length:Int)+m<=D/\aW wr w.heap.size o l/\p<=F/\F<=p+1+3*l.length/\Rd B wr g v n F/\Bx g w wr) (fun _ i _=>(intOf i).toNat)
 case atStart=>
  obtain⟨m,rfl⟩:=Int.eq_ofNat_of_zero_le x6;exact⟨m,[],p+1,by omega,rfl,by simp;omega,V,by omega,by simp,O,R⟩
 case round=>
  clear V R O;obtain⟨m,l,F,hm,rfl,z0,A,x5,Q,hr,hx⟩:=hrel;have HO:=(show Hid _ from A);have HP:=(show Hid _ from Q);clear A
  by_cases y9:0<m
  ·go_wp2_with fail;refine (tR hr (by omega) (by omega)).mono ?_;rintro e T ⟨a,b,rfl,z7,z6,z4,z3,⟨U,y5,y4,x4⟩,M⟩;have A:=oX HO.out M hg;have N:=hx.trans M;have y3:=N.size;have y0:l.length<=100:=by omega
   have HQ:=HP;clear HP Q
   go_wp2_with (at_builtin;refine nU _ rfl _ _ 27 rfl w.heap.size 32 i0 (.agg #[.int .i64 0,.int .i64 0]) 2 16 rN hi h9 Z Y rfl (by decide) _ _ _ rfl (A.alloc _) ⟨T.heap.size,0,none⟩ 1 1 [.int .i64 a,.int .i64 b] rfl rfl (vS _ _ _ _) (mV _ _) (by omega) (by unfold maxLen;omega) (by omega) (by simp;omega) (T.heap.size+1) (by simp) ?_;intro g3 x7 I L G z5 z1)
   have J:aW I w.heap.size (.slice (some ⟨g3,0,none⟩) (l.length+1) x7) (l++[(a,b)]):=by
    show I.ownsRow _ _ _ _ _ _
    rw[iM];simpa using L
   have x3:Rd B I g v n U:=(x4.aX (aG (oO _ _) _)).grown G (fun k e=>by have:=i7 A k e;omega);have x2:Bx g w I:=(N.alloc _).grown G (i7 A);exact⟨⟨m-1,l++[(a,b)],U,by omega,by congr 1;omega,by simp;omega,J,by omega,by have:=HQ.out;simp;omega,x3,x2⟩,by simp[intOf];omega⟩
  ·obtain rfl:m=0:=by omega
   go_wp2_with fail;go_ret;exact⟨_,l,rfl,by omega,HO.out,⟨F,x5,by omega,hr⟩,hx⟩
def fW (l:LI):Bool:=(fH l.length).all fun i=>bH (tA l i) (tB l i)
theorem Bz (A:k<l.length)(h:bH (tA l k) (tB l k)=false):fW l=false:=by
 unfold fW;rw[List.all_eq_false];exact⟨k,by simpa using A,by simp[h]⟩
theorem uV (h:∀j,j<l.length->bH (tA l j) (tB l j)=true):fW l=true:=by
 unfold fW;rw[List.all_eq_true];intro j A;exact h j (by simpa using A)
def BM (l:LI)(a b:Int)(i:Nat):Bool:=decide (tA l i=a/\tB l i=b)
def Ar (l:LI)(a b:Int)(i:Nat):Bool:=!BM l a b i&&cV (tA l i) (tB l i) a b
def tD (l:LI)(a b:Int)(m:Nat):Bool:=(fH m).any (BM l a b)
def pN (l:LI)(a b:Int)(m:Nat):Bool:=(fH m).any (Ar l a b)
def lV (l:LI)(a b:Int):Bool:=tD l a b l.length&&!pN l a b l.length
def gA (i:Nat):Int:=((i / 8:Nat):Int)
def gB (i:Nat):Int:=7-((i%8:Nat):Int)
theorem Gq (A:j<8):gA (8*k+j)=k:=by unfold gA;omega
theorem Hs (A:j<8):gB (8*k+j)=7-(j:Int):=by unfold gB;omega
def lH (l:LI)(n:Nat):LI:=((fH n).filter fun i=>lV l (gA i) (gB i)).map fun i=>(gA i,gB i)
def cK (l:LI):LI:=if fW l then lH l 64 else []
theorem Gd (l:LI)(a b:Int)(m:Nat):tD l a b (m+1)=(tD l a b m||BM l a b m):=by
 unfold tD;rw[fD,jU];simp
theorem GO (l:LI)(a b:Int)(m:Nat):pN l a b (m+1)=(pN l a b m||Ar l a b m):=by
 unfold pN;rw[fD,jU];simp
theorem D8 (l:LI)(n:Nat):(lH l n).length<=n:=by
 unfold lH;rw[List.length_map];exact sE (List.length_filter_le _ _) (by simp)
theorem KV (l:LI)(A:j<8)(h:lV l k (7-(j:Int))=true):lH l (8*k+(j+1))=lH l (8*k+j)++[((k:Int),7-(j:Int))]:=by
 have D:lV l (gA (8*k+j)) (gB (8*k+j))=true:=by rw[Gq A,Hs A];exact h
 unfold lH;rw[<- sG,fD,gY,gZ,List.filter_cons_of_pos (p:=fun i=>lV l (gA i) (gB i)) D,iC,List.map_cons,kR,Gq A,Hs A]
theorem Me (l:LI)(A:j<8)(h:lV l k (7-(j:Int))=false):lH l (8*k+(j+1))=lH l (8*k+j):=by
 have D:¬lV l (gA (8*k+j)) (gB (8*k+j))=true:=by rw[Gq A,Hs A,h];simp
 unfold lH;rw[<- sG,fD,gY,gZ,List.filter_cons_of_neg (p:=fun i=>lV l (gA i) (gB i)) D,iC,kR,List.append_nil]
theorem KL (v:lY)(l:LI)(w:kX)(h:Ts w v l):
  mF qA 185 #[v] w fun e w'=>e=.returned (.bool (fW l))/\oJ w.heap.size w w':=by
 obtain⟨a,U,rfl,W,hm,hn,A⟩:=h;unfold maxLen at hm;have T:=(show Hid _ from A);clear A;go_enter Tryz.func185,Tryz.ntmps185;go_wp2_with fail
 go_loopw [3] (fun i wr=>∃k:Nat,k<=l.length/\i=.int .i64 k/\(∀j,j<k->bH (tA l j) (tB l j)=true)/\oJ w.heap.size w wr) (fun i _=>l.length-(intOf i).toNat)
 case atStart=>exact⟨0,by omega,rfl,fun j J=>by omega,oO _ _⟩
 case round=>
  obtain⟨k,V,rfl,G,F⟩:=hrel;have Q:=(show Hid _ from G);clear G
  by_cases I:k<l.length
  ·obtain⟨g,off,rfl,hg,O,c1⟩:=T.out k I;have Z:=cB F O;have d1:=cB F c1;clear O c1;generalize N:tA l k=X at*;generalize M:tB l k=Y at*;have S:Hid (tA l k=X):=N;have R:Hid (tB l k=Y):=M;clear N M;cases ho:bH X Y
   ·have H:Hid (fW l=false):=Bz I (by rw[S.out,R.out];exact ho);go_wp2_with fail;refine (kA ho _).mono ?_;rintro e w1 ⟨rfl,D⟩;go_wp2_with fail;go_ret;exact⟨rB H.out.symm,aH F D⟩
   ·have H:Hid (bH (tA l k) (tB l k)=true):=by show _=true;rw[S.out,R.out];exact ho
    go_wp2_with fail;refine (kA ho _).mono ?_;rintro e w1 ⟨rfl,D⟩;have L:=aH F D;go_wp2_with fail;go_roundw
    case rel=>
     refine⟨k+1,by omega,by go_num,fun j J=>?_,L⟩
     by_cases e:j=k
     ·subst e;exact H.out
     ·exact Q.out j (by omega)
    case measure=>simp[intOf];omega
  ·have H:Hid (fW l=true):=uV fun j J=>Q.out j (by omega);go_wp2_with fail;go_ret;exact⟨rB H.out.symm,F⟩
theorem tF (v:lY)(l:LI)(w:kX)(h:Ts w v l):
  mF qA 131 #[v] w fun e w'=>∃o:lY,e=.returned o/\aW w' w.heap.size o (cK l)/\oJ w.heap.size w w':=by
 obtain⟨i0,hi,z9,z8,z7⟩:=info_parts mW;have h9:oJ w.heap.size w (w.alloc (.cells #[] 32)):=aG (oO _ _) _;have o0:=lZ w 32 2;go_enter Tryz.func131,Tryz.ntmps131;go_wp2_with fail;refine (KL v l _ (h.keep h9)).mono ?_;rintro e w1 ⟨rfl,Z⟩;have N:=aH h9 Z;have o1:=bJ o0 Z;clear o0 h9 Z;cases U:fW l
 ·have HK:Hid (cK l=[]):=by show _=[];simp[cK,U]
  go_wp2_with fail;go_ret;refine⟨_,rfl,?_,N⟩;rw[HK.out];exact o1
 have HK:Hid (cK l=lH l 64):=by show _=_;simp[cK,U]
 clear U;obtain⟨a,a7,rfl,hc,hm,hn,M⟩:=h;unfold maxLen at hm;have HC:=(show Hid _ from M);clear M;generalize hN:l.length=n at*;have HN:Hid (l.length=n):=hN;clear hN;go_wp2_with fail
 go_loopw [3,4] (fun o i wr=>∃k:Nat,k<=8/\i=.int .i64 k/\aW wr w.heap.size o (lH l (8*k))/\oJ w.heap.size w wr) (fun _ i _=>8-(intOf i).toNat)
 case atStart=>exact⟨0,by omega,rfl,o1,N⟩
 case round=>
  clear o1 N;obtain⟨k,hk,rfl,F,A⟩:=hrel;have O:=(show Hid _ from F);clear F
  by_cases a1:k<8
  ·have a3:decide ((k:Int)<=7)=true:=by simp;omega
   go_wp2_with fail
   go_loopw [3,5] (fun o i T=>∃j:Nat,j<=8/\i=.int .i64 (7-(j:Int))/\aW T w.heap.size o (lH l (8*k+j))/\oJ w.heap.size w T) (fun _ i _=>(intOf i+1).toNat)
   case atStart=>exact⟨0,by omega,rfl,O.out,A⟩
   case round=>
    clear O A;obtain⟨j,hj,rfl,F,A⟩:=hrel;have O:=(show Hid _ from F);clear F
    by_cases y1:j<8
    ·have a5:decide ((j:Int)<=7)=true:=by simp;omega
     have a4:decide (0<=7-(j:Int))=true:=by simp;omega
     have x3:=Bk.new (w:=wr) #[.int .i64 (k:Int),.int .i64 (7-(j:Int))] 32 rfl;have R:=aG A (.cells #[.int .i64 (k:Int),.int .i64 (7-(j:Int))] 32);have OT:=(show Hid _ from bJ O.out (aG (oO _ wr) (.cells #[.int .i64 (k:Int),.int .i64 (7-(j:Int))] 32)));clear O A;go_wp2_with fail;generalize (wr.alloc (.cells #[.int .i64 (k:Int),.int .i64 (7-(j:Int))] 32))=wt at*;generalize wr.heap.size=tb at*
     go_loopw [7,8] (fun lb i T=>∃m:Nat,m<=n/\i=.int .i64 m/\lb=.bool (tD l k (7-(j:Int)) m)/\oJ wt.heap.size wt T) (fun _ i _=>n-(intOf i).toNat)
     case atStart=>exact⟨0,by omega,rfl,rfl,oO _ _⟩
     case round=>
      obtain⟨m,a0,rfl,rfl,A⟩:=hrel
      by_cases u8:m<n
      ·obtain⟨g,off,rfl,hg,c0,c1⟩:=HC.out m u8;have d0:=cB A (cB R c0);have d1:=cB A (cB R c1);clear c0 c1;obtain⟨t0,t1,_,_⟩:=(x3.keep A).two;have H:=(show Hid _ from Gd l k (7-(j:Int)) m);have I:=(show Hid (BM l k (7-(j:Int)) m=decide (tA l m=k/\tB l m=7-(j:Int))) from rfl);generalize hX:tA l m=X at*;generalize hY:tB l m=Y at*;clear hX hY;have im:((m:Int)<(n:Int)):=by omega
       by_cases S:X=k
       ·by_cases x0:Y=7-(j:Int)
        ·subst S x0;go_wp2_with fail
         go_quiet (fail)
         go_wp2_with fail;go_roundw
         case rel=>exact⟨m+1,by omega,by go_num,by rw[H.out,I.out];simp,dC A _⟩
         case measure=>simp[intOf];omega
        ·subst S;have ny:(Y==7-(j:Int))=false:=beq_eq_false_iff_ne.2 x0;go_wp2_with fail
         go_quiet (fail)
         go_wp2_with fail;go_roundw
         case rel=>exact⟨m+1,by omega,by go_num,by rw[H.out,I.out];simp[x0],dC A _⟩
         case measure=>simp[intOf];omega
       ·have nx:(X==(k:Int))=false:=beq_eq_false_iff_ne.2 S;go_wp2_with fail
        go_quiet (fail)
        go_wp2_with fail;go_roundw
        case rel=>exact⟨m+1,by omega,by go_num,by rw[H.out,I.out];simp[S],dC A _⟩
        case measure=>simp[intOf];omega
      ·obtain rfl:m=n:=by omega
       obtain⟨w5,u0⟩:∃w5,w5=wr:=⟨_,rfl⟩;subst u0;have W:=aH R A;have x2:=x3.keep A;have O5:=(show Hid _ from bJ OT.out A);have HL:Hid (lV l k (7-(j:Int))=(tD l k (7-(j:Int)) m&&!pN l k (7-(j:Int)) m)):=by show _=_;unfold lV;rw[HN.out]
       clear A R x3 OT;generalize v0:tD l k (7-(j:Int)) m=me at*;clear v0;go_wp2_with fail
       go_loopw [7,9] (fun lb i T=>∃q:Nat,q<=m/\i=.int .i64 q/\lb=.bool (me&&!pN l k (7-(j:Int)) q)/\oJ w5.heap.size w5 T) (fun _ i _=>m-(intOf i).toNat)
       case atStart=>exact⟨0,by omega,rfl,by simp[pN],oO _ _⟩
       case round=>
        obtain⟨q,w9,rfl,rfl,A⟩:=hrel
        by_cases u4:q<m
        ·obtain⟨g,off,rfl,hg,c0,c1⟩:=HC.out q u4;have H:=(show Hid _ from GO l k (7-(j:Int)) q);have I:=(show Hid (Ar l k (7-(j:Int)) q=(!decide (tA l q=k/\tB l q=7-(j:Int))&&cV (tA l q) (tB l q) k (7-(j:Int)))) from rfl);generalize hX:tA l q=X at*;generalize hY:tB l q=Y at*;clear hX hY;generalize v1:pN l k (7-(j:Int)) q=lo at*;clear v1;have d0:∀p:dH wr,p.ww.cell? ⟨g,off+q*2,none⟩=some (.int .i64 X):=fun p=>cB p.below (cB A (cB W c0));have d1:∀p:dH wr,p.ww.cell? ⟨g,off+q*2+1,none⟩=some (.int .i64 Y):=fun p=>cB p.below (cB A (cB W c1));have t0:=(x2.keep A).cw;have t1:=(x2.keep A).cu;have hne:=jC wr;clear c0 c1;have iq:((q:Int)<(m:Int)):=by omega
         by_cases L:X=k/\Y=7-(j:Int)
         ·obtain⟨rfl,rfl⟩:=L;go_wp2_with fail
          (refine jJ (by kernel_rfl) (by kernel_rfl) ?_;(repeat (go_big_quiet_step ((first|(go_at_call 129;exact iJ (iS (by with_reducible assumption) _))))));refine lI ?_)
          intro w6 D
          replace D:=jM D
          have G:=aH A D;go_wp2_with fail;go_roundw
          case rel=>exact⟨q+1,by omega,by go_num,by rw[H.out,I.out];simp,G⟩
          case measure=>simp[intOf];omega
         ·have x9:(X==(k:Int))=false\/(X=k/\(Y==7-(j:Int))=false):=by
           by_cases hx:X=k
           ·exact .inr ⟨hx,beq_eq_false_iff_ne.2 fun h=>L ⟨hx,h⟩⟩
           ·exact .inl (beq_eq_false_iff_ne.2 hx)
          have Q:decide (X=k/\Y=7-(j:Int))=false:=by simpa using L
          cases hp:cV X Y k (7-(j:Int))
          ·have J:Hid ((lo||(!decide (X=k/\Y=7-(j:Int))&&cV X Y k (7-(j:Int))))=lo):=by show _=lo;rw[Q,hp];simp
           clear L Q
           rcases x9 with nx|⟨rfl,ny⟩
           all_goals go_wp2_with fail
           all_goals (refine jJ (by kernel_rfl) (by kernel_rfl) ?_;(repeat (go_big_quiet_step ((first|(go_at_call 129;exact iJ (iS (by with_reducible assumption) _))))));refine lI ?_)
           all_goals intro w6 D
           all_goals replace D:=jM D
           all_goals have G:=aH A D
           all_goals go_wp2_with fail
           all_goals go_roundw
           case rel=>exact⟨q+1,by omega,by go_num,by rw[H.out,I.out,J.out],G⟩
           case measure=>simp[intOf];omega
           case rel=>exact⟨q+1,by omega,by go_num,by rw[H.out,I.out,J.out],G⟩
           case measure=>simp[intOf];omega
          ·have J:Hid ((lo||(!decide (X=k/\Y=7-(j:Int))&&cV X Y k (7-(j:Int))))=true):=by show _=true;rw[Q,hp];simp
           clear L Q
           rcases x9 with nx|⟨rfl,ny⟩
           all_goals go_wp2_with fail
           all_goals (refine jJ (by kernel_rfl) (by kernel_rfl) ?_;(repeat (go_big_quiet_step ((first|(go_at_call 129;exact iJ (iS (by with_reducible assumption) _))))));refine lI ?_)
           all_goals intro w6 D
           all_goals replace D:=jM D
           all_goals have G:=aH A D
           all_goals go_wp2_with fail
           all_goals go_roundw
           case rel=>exact⟨q+1,by omega,by go_num,by rw[H.out,I.out,J.out];simp,G⟩
           case measure=>simp[intOf];omega
           case rel=>exact⟨q+1,by omega,by go_num,by rw[H.out,I.out,J.out];simp,G⟩
           case measure=>simp[intOf];omega
        ·obtain rfl:q=m:=by omega
         have OW:=bJ O5.out A;have V:=aH W A;obtain⟨t0,t1,_,_⟩:=(x2.keep A).two;have v7:=D8 l (8*k+j);have y2:=HL;cases y0:(me&&!pN l k (7-(j:Int)) q)
         ·have HZ:Hid (lH l (8*k+(j+1))=lH l (8*k+j)):=Me l y1 (by rw[y2.out];exact y0);have v5:=(show Hid _ from OW);clear OW;go_wp2_with fail;go_roundw
          case rel=>
           refine⟨j+1,by omega,by go_num,?_,V⟩;rw[HZ.out];exact v5.out
          case measure=>simp[intOf];omega
         ·have HZ:Hid (lH l (8*k+(j+1))=lH l (8*k+j)++[((k:Int),7-(j:Int))]):=KV l y1 (by rw[y2.out];exact y0);have w8:=V.size
          go_wp2_with (at_builtin;refine nU _ rfl _ _ 27 rfl w.heap.size 32 i0 (.agg #[.int .i64 0,.int .i64 0]) 2 16 rN hi z9 z8 z7 rfl (by decide) _ _ _ rfl (OW.alloc _) ⟨wr.heap.size,0,none⟩ 1 1 [.int .i64 (k:Int),.int .i64 (7-(j:Int))] rfl rfl (vS _ _ _ _) (mV _ _) (by omega) (by unfold maxLen;omega) (by omega) (by simp;omega) (wr.heap.size+1) (by simp) ?_;intro g3 v9 w3 x6 x7 a6 a2)
          have v2:oJ w.heap.size w w3:=(aG V _).grown x7 (by simp;omega) (i7 OW);go_roundw
          case rel=>
           refine⟨j+1,by omega,by go_num,?_,v2⟩;rw[HZ.out]
           show w3.ownsRow _ _ _ _ _ _
           rw[iM];simpa using x6
          case measure=>simp[intOf];omega
    ·obtain rfl:j=8:=by omega
     go_wp2_with fail;go_roundw
     case rel=>exact⟨k+1,by omega,by go_num,O.out,A⟩
     case measure=>simp[intOf];omega
  ·obtain rfl:k=8:=by omega
   go_wp2_with fail;go_ret;refine⟨_,rfl,?_,A⟩;rw[HK.out];exact O.out
end Go.Proofs.YtbdpcngcbnoioaaGreatDoor
