import Derived.Test.YtbdpcngcbnoioaaGreatDoorGj5
import Derived.Deep.RegionLaw
set_option maxRecDepth 100000
set_option maxHeartbeats 8000000
namespace Go.Proofs.YtbdpcngcbnoioaaGreatDoor
open Go renaming World->fM,IntKind->fQ,Value->gD,Calls->gM,Loop->gQ,TypeId->gX,Addr->iM,Program->iP,OwnFrom->jB
open Go.IntKind renaming wrap_i64->jO,i64->mO
open _root_.List renaming getD_eq_getElem?_getD->nA,length_take->nB,getElem?_eq_getElem->nT
open Go.Proofs.Tryz renaming prog->nX
open _root_.Nat renaming le_refl->oU,zero_le->oW,lt_of_lt_of_le->pU,le_trans->qV
open Go.RowKit renaming Below->sD
open Go.Value renaming ownBlock->tJ,int->tK
open Go.RowKit.Below renaming refl->tL,heap_setCell->tM
open Go.Result renaming andThen->tN
open _root_.Int renaming tdiv_eq_ediv_of_nonneg->xU
variable {B cap g hb i i0 j k m:Nat}{W W' w w' w1:fM}{X Y:Int}{a b t x:Int×Int}{ap:Option Nat}{c l:LI}{v:gD}
def gt (l:LI)(i:Nat):Int×Int:=l.getD i (0,0)
def eB (l:LI)(i j:Nat):LI:=(l.set i (gt l j)).set j (gt l i)
def kQ (a b:Int×Int):Prop:=bJ b a=false
theorem vN :kQ a b↔a.1<b.1\/(a.1=b.1/\a.2<=b.2):=by
 unfold kQ bJ;simp only[decide_eq_false_iff_not];omega
theorem FE :bJ a b=true↔a.1<b.1\/(a.1=b.1/\a.2<b.2):=by
 unfold bJ;simp only[decide_eq_true_eq]
theorem wV (a:Int×Int):kQ a a:=by rw[vN];omega
theorem pL {c:Int×Int}(h:kQ a b)(k:kQ b c):kQ a c:=by rw[vN]at *;omega
theorem yM (h:bJ a b=true):kQ a b:=by rw[vN];rw[FE]at h;omega
theorem iY (h:k<l.length):gt l k∈l:=by
 unfold gt;rw[nA,nT h];exact List.getElem_mem h
theorem qC (h:x∈l):∃k,k<l.length/\gt l k=x:=by
 obtain⟨k,s,e⟩:=List.getElem_of_mem h;exact⟨k,s,by unfold gt;rw[nA,nT s,e];rfl⟩
theorem mD {n:Nat}(h:k<n):gt (l.take n) k=gt l k:=by
 unfold gt;rw[nA,nA,List.getElem?_take,if_pos h]
theorem C6 (h:k<l.length):gt (l++[x]) k=gt l k:=by
 unfold gt;rw[nA,nA,List.getElem?_append_left h]
theorem jQ (l:LI)(i j:Nat):(eB l i j).length=l.length:=by simp[eB]
theorem nP (hi:i<l.length)(s:j<l.length)(k:Nat):gt (eB l i j) k=if k=j then gt l i else if k=i then gt l j else gt l k:=by
 unfold eB;generalize hx:gt l i=x;generalize A:gt l j=y;unfold gt;simp only[nA,List.getElem?_set,List.length_set]
 by_cases h1:k=j
 ·subst h1;simp[s]
 ·simp only[if_neg h1,if_neg (Ne.symm h1)]
  by_cases h2:k=i
  ·subst h2;simp[hi]
  ·simp only[if_neg h2,if_neg (Ne.symm h2)]
theorem An (hi:i<l.length)(s:j<l.length)(x:Int×Int):x∈eB l i j↔x∈l:=by
 constructor
 ·intro h;obtain⟨k,A,e⟩:=qC h;rw[jQ]at A;rw[nP hi s]at e
  split at e
  ·rw[<- e];exact iY hi
  ·split at e
   ·rw[<- e];exact iY s
   ·rw[<- e];exact iY A
 ·intro h;obtain⟨k,A,e⟩:=qC h;have hl:=jQ l i j;have g:∀q,q<l.length->gt (eB l i j) q∈eB l i j:=fun q hq=>iY (by omega)
  by_cases h1:k=i
  ·have h:=g j s;have q:gt (eB l i j) j=x:=by rw[nP hi s,if_pos rfl,<-h1,e]
   rw[q]at h;exact h
  ·by_cases h2:k=j
   ·have h:=g i hi;have q:gt (eB l i j) i=x:=by
     rw[nP hi s]
     by_cases h3:i=j
     ·rw[if_pos h3,h3,<-h2,e]
     ·rw[if_neg h3,if_pos rfl,<-h2,e]
    rw[q]at h;exact h
   ·have h:=g k A;have q:gt (eB l i j) k=x:=by rw[nP hi s,if_neg h2,if_neg h1,e]
    rw[q]at h;exact h
def cK (l:LI)(n i0:Nat):Prop:=∀m,0<m->m<n->i0<=(m-1) / 2->kQ (gt l ((m-1) / 2)) (gt l m)
structure rQ (l c:LI)(i0 n i:Nat):Prop where
 len:c.length=l.length
 mem:∀x,x∈c↔x∈l
 far:∀k,n<=k->gt c k=gt l k
 d1:∀m,0<m->m<n->i0<=(m-1) / 2->(m-1) / 2≠i->kQ (gt c ((m-1) / 2)) (gt c m)
 d2:i0<i->∀m,0<m->m<n->(m-1) / 2=i->kQ (gt c ((i-1) / 2)) (gt c m)
 ge:i0<=i
 pge:i0<i->i0<=(i-1) / 2
theorem rQ.start {n:Nat}(h:cK l n (i0+1)):rQ l l i0 n i0 where
 len:=rfl
 mem _:=Iff.rfl
 far _ _:=rfl
 d1 m h0 hm hi hne:=h m h0 hm (by omega)
 d2 h:=by omega
 ge:=oU _
 pge h:=by omega
theorem rQ.dB {n:Nat}(h:rQ l c i0 n i)(hn:n<=2*i+1):cK c n i0:=fun m h0 hm hi=>h.d1 m h0 hm hi (by omega)
def sM (c:LI)(n i j:Nat):Prop:=2*i+1<n/\j<n/\(j=2*i+1\/j=2*i+2)/\∀m,0<m->m<n->(m-1) / 2=i->kQ (gt c j) (gt c m)
theorem Hq {n:Nat}(h1:2*i+1<n)(h:2*i+2<n->kQ (gt c (2*i+1)) (gt c (2*i+2))):sM c n i (2*i+1):=
 ⟨h1,h1,.inl rfl,fun m h0 hm e=>by
  obtain rfl|rfl:m=2*i+1\/m=2*i+2:=by omega
  ·exact wV _
  ·exact h hm⟩
theorem Ov {n:Nat}(h2:2*i+2<n)(h:bJ (gt c (2*i+2)) (gt c (2*i+1))=true):sM c n i (2*i+2):=
 ⟨by omega,h2,.inr rfl,fun m h0 hm e=>by
  obtain rfl|rfl:m=2*i+1\/m=2*i+2:=by omega
  ·exact yM h
  ·exact wV _⟩
theorem rQ.cw {n:Nat}(h:rQ l c i0 n i)(s:sM c n i j)(hl:bJ (gt c j) (gt c i)=false):cK c n i0:=fun m h0 hm hi=>by
 by_cases e:(m-1) / 2=i
 ·rw[e];exact pL hl (s.2.2.2 m h0 hm e)
 ·exact h.d1 m h0 hm hi e
theorem rQ.step {n:Nat}(h:rQ l c i0 n i)(hn:n<=l.length)(L:sM c n i j)(hl:bJ (gt c j) (gt c i)=true):rQ l (eB c i j) i0 n j:=by
 obtain⟨h1,h2,h3,h4⟩:=L;have D:=h.len;have A:i<c.length:=by omega
 have s:j<c.length:=by omega
 have O:=h.ge;have e:=nP A s;have G:i≠j:=by omega
 refine⟨by rw[jQ];exact D,fun x=>by rw[An A s];exact h.mem x,fun k H=>by rw[e,if_neg (by omega),if_neg (by omega)];exact h.far k H,fun m h0 hm hi hne=>?_,fun M m h0 hm hp=>?_,by omega,fun _=>by omega⟩
 ·rw[e,e]
  by_cases c1:(m-1) / 2=i
  ·rw[if_neg (by omega),if_pos c1]
   by_cases c2:m=j
   ·rw[if_pos c2];exact yM hl
   ·rw[if_neg c2,if_neg (by omega)];exact h4 m h0 hm c1
  ·rw[if_neg (by omega),if_neg (by omega)]
   by_cases c2:m=j
   ·omega
   ·rw[if_neg c2]
    by_cases c3:m=i
    ·rw[if_pos c3];have:=h.d2 (by omega) j (by omega) h2 (by omega);rw[c3];exact this
    ·rw[if_neg c3];exact h.d1 m h0 hm hi c1
 ·rw[e,e];have c1:(j-1) / 2=i:=by omega
  rw[c1,if_neg G,if_pos rfl,if_neg (by omega),if_neg (by omega)];have:=h.d1 m h0 hm (by omega) (by omega);rw[hp]at this;exact this
structure rR (l c:LI)(j:Nat):Prop where
 len:c.length=l.length
 mem:∀x,x∈c↔x∈l
 lt:j<l.length
 u1:∀m,0<m->m<l.length->m≠j->kQ (gt c ((m-1) / 2)) (gt c m)
 u2:0<j->∀m,0<m->m<l.length->(m-1) / 2=j->kQ (gt c ((j-1) / 2)) (gt c m)
theorem rR.start (h:cK l l.length 0):rR (l++[x]) (l++[x]) l.length where
 len:=rfl
 mem _:=Iff.rfl
 lt:=by simp
 u1 m h0 hm hne:=by
  have s:m<l.length:=by simp at hm;omega
  rw[C6 (by omega),C6 s];exact h m h0 s (by omega)
 u2 h0 m h1 hm hp:=by simp at hm;omega
theorem rR.dw (h:rR l c 0):cK c l.length 0:=fun m h0 hm _=>h.u1 m h0 hm (by omega)
theorem rR.dB (h:rR l c j)(hl:bJ (gt c j) (gt c ((j-1) / 2))=false):cK c l.length 0:=fun m h0 hm _=>by
 by_cases e:m=j
 ·rw[e];exact hl
 ·exact h.u1 m h0 hm e
theorem rR.step (h:rR l c j)(H:0<j)(hl:bJ (gt c j) (gt c ((j-1) / 2))=true):rR l (eB c ((j-1) / 2) j) ((j-1) / 2):=by
 have G:=h.len;have M:=h.lt;have D:(j-1) / 2<c.length:=by omega
 have A:j<c.length:=by omega
 have e:=nP D A;have L:=yM hl;refine⟨by rw[jQ];exact G,fun x=>by rw[An D A];exact h.mem x,by omega,fun m h0 hm hne=>?_,fun h0 m h1 hm hp=>?_⟩
 ·rw[e,e]
  by_cases c1:m=j
  ·rw[c1,if_neg (by omega),if_pos rfl,if_pos rfl];exact L
  ·rw[if_neg c1,if_neg hne]
   by_cases c2:(m-1) / 2=j
   ·rw[if_pos c2];exact h.u2 H m h0 hm c2
   ·rw[if_neg c2]
    by_cases c3:(m-1) / 2=(j-1) / 2
    ·rw[if_pos c3];have:=h.u1 m h0 hm c1;rw[c3]at this;exact pL L this
    ·rw[if_neg c3];exact h.u1 m h0 hm c1
 ·rw[e,e];have s:kQ (gt c (((j-1) / 2-1) / 2)) (gt c ((j-1) / 2)):=h.u1 ((j-1) / 2) h0 (by omega) (by omega);rw[if_neg (by omega),if_neg (by omega)]
  by_cases c1:m=j
  ·rw[if_pos c1];exact s
  ·rw[if_neg c1,if_neg (by omega)];have:=h.u1 m h1 hm c1;rw[hp]at this;exact pL s this
theorem Ig (h:cK l l.length 0)(s:k<l.length):kQ (gt l 0) (gt l k):=by
 induction k using Nat.strongRecOn with
 | _ k ih=>
  by_cases h0:k=0
  ·subst h0;exact wV _
  ·exact pL (ih ((k-1) / 2) (by omega) (by omega)) (h k (by omega) s (by omega))
theorem Mc (h:cK l l.length 0)(hx:x∈l):kQ (gt l 0) x:=by
 obtain⟨k,s,rfl⟩:=qC hx;exact Ig h s
theorem PI (h:cK l l.length 0)(h0:0<l.length):cK (eB l 0 (l.length-1)) (l.length-1) (0+1):=fun m s hm hi=>by
 have e:=nP (l:=l) (i:=0) (j:=l.length-1) h0 (by omega);rw[e,e,if_neg (by omega),if_neg (by omega),if_neg (by omega),if_neg (by omega)];exact h m s (by omega) (by omega)
theorem KM {n:Nat}(h:cK c n 0)(hn:n<=c.length):cK (c.take n) (c.take n).length 0:=fun m h0 hm _=>by
 have hl:(c.take n).length=n:=by rw[nB];omega
 rw[hl]at hm;rw[mD (by omega),mD hm];exact h m h0 hm (by omega)
theorem PJ (h0:0<l.length)(h:rQ (eB l 0 (l.length-1)) c 0 (l.length-1) c.length\/(c.length=l.length/\(∀x,x∈c↔x∈eB l 0 (l.length-1))/\∀k,l.length-1<=k->gt c k=gt (eB l 0 (l.length-1)) k))(x:Int×Int):x∈l↔x=gt l 0\/x∈c.take (l.length-1):=by
 have D:c.length=l.length/\(∀x,x∈c↔x∈eB l 0 (l.length-1))/\∀k,l.length-1<=k->gt c k=gt (eB l 0 (l.length-1)) k:=by
  rcases h with h|h
  ·exact⟨by rw[h.len,jQ],h.mem,h.far⟩
  ·exact h
 obtain⟨h1,h2,h3⟩:=D;have hm:x∈c↔x∈l:=by rw[h2,An h0 (by omega)]
 have s:gt c (l.length-1)=gt l 0:=by rw[h3 _ (oU _),nP h0 (by omega),if_pos rfl]
 rw[<- hm];constructor
 ·intro hx;obtain⟨k,G,e⟩:=qC hx
  by_cases A:k=l.length-1
  ·left;rw[<- e,A,s]
  ·right
   rw[<- e,<-mD (l:=c) (n:=l.length-1) (by omega)];exact iY (by rw[nB];omega)
 ·rintro (rfl|hx)
  ·rw[<- s];exact iY (by omega)
  ·exact List.mem_of_mem_take hx
open Go.RowKit
theorem Q4 (a:iM)(w:fM):(method 474 305 (.pointer (some a)) "Len").run nX w=(do let v<-loadVar 303 a;pure (334,v)).run nX w:=by kernel_rfl
theorem Ox (a:iM)(w:fM):(method 474 305 (.pointer (some a)) "Less").run nX w=(do let v<-loadVar 303 a;pure (335,v)).run nX w:=by kernel_rfl
theorem Oy (a:iM)(w:fM):(method 474 305 (.pointer (some a)) "Swap").run nX w=(do let v<-loadVar 303 a;pure (336,v)).run nX w:=by kernel_rfl
theorem RC (a:iM)(w:fM):(method 474 305 (.pointer (some a)) "Pop").run nX w=.ok (337,.pointer (some a)) w:=by kernel_rfl
theorem Q5 (a:iM)(w:fM):(method 474 305 (.pointer (some a)) "Push").run nX w=.ok (338,.pointer (some a)) w:=by kernel_rfl
theorem yO {b:Nat}(h:Bk w b #[v] 303):(loadVar 303 ⟨b,0,none⟩).run nX w=.ok v w:=by
 have s:=h.cell (i:=0) (v:=v) rfl;go_simp
theorem J3 {b:Nat}(h:Bk w b #[v] 303):(method 474 305 (.pointer (some ⟨b,0,none⟩)) "Len").run nX w=.ok (334,v) w:=by
 rw[Q4];simp[yO h,tN]
theorem rC {b:Nat}(h:Bk w b #[v] 303):(method 474 305 (.pointer (some ⟨b,0,none⟩)) "Less").run nX w=.ok (335,v) w:=by
 rw[Ox];simp[yO h,tN]
theorem yP {b:Nat}(h:Bk w b #[v] 303):(method 474 305 (.pointer (some ⟨b,0,none⟩)) "Swap").run nX w=.ok (336,v) w:=by
 rw[Oy];simp[yO h,tN]
attribute [local go_sem ↓] Go.wp_at_zero Go.wp_at_succ
theorem Nq (l:LI)(i:Nat):gt l i=(tA l i,tB l i):=rfl
theorem AX (a:Option iM)(n cap:Nat)(w:fM):gM nX 334 #[.slice a n cap] w fun e w'=>e=.returned (.int .i64 n)/\w'=w:=by
 go_enter Tryz.func334,Tryz.ntmps334;go_wp2_with fail;go_ret;exact⟨rfl,rfl⟩
theorem P6 (a b c d:Int):decide (pM (iX a c) (iX b d)<0)=bJ (a,b) (c,d):=by
 unfold pM iX bJ;rw[Bool.eq_iff_iff,decide_eq_true_eq,decide_eq_true_eq];simp only;constructor
 ·intro h;revert h;split<;>(try split)<;>(try split)<;>(try split)<;>intro h<;>omega
 ·intro h;split<;>(try split)<;>(try split)<;>(try split)<;>omega
theorem yF {c:Array gD}(hb:Bk w g c 32)(hf:jM c l l.length)(hi:i<l.length)(G:j<l.length){r:Bool}(hr:bJ (gt l i) (gt l j)=r):
  gM nX 335 #[.slice (some ⟨g,0,none⟩) l.length cap,.int .i64 i,.int .i64 j] w fun e w'=>e=.returned (.bool r)/\sD w.heap.size w w':=by
 have q0:=hb.cell (hf i hi).1;have Z:=hb.cell (hf i hi).2;have V:=hb.cell (hf j G).1;have U:=hb.cell (hf j G).2;have HR:Hid (decide (pM (iX (tA l i) (tA l j)) (iX (tB l i) (tB l j))<0)=r):=by
  show _=_
  rw[<- hr];exact P6 _ _ _ _
 have HB:Hid (Bk w g c 32/\jM c l l.length):=⟨hb,hf⟩;have T:Hid (∀W,sD w.heap.size w W->(W.cell? ⟨g,i*2,none⟩=some (.int .i64 (tA l i))/\W.cell? ⟨g,i*2+1,none⟩=some (.int .i64 (tB l i)))/\W.cell? ⟨g,j*2,none⟩=some (.int .i64 (tA l j))/\W.cell? ⟨g,j*2+1,none⟩=some (.int .i64 (tB l j))):=
  fun W A=>⟨⟨cB A q0,cB A Z⟩,cB A V,cB A U⟩
 have D:sD w.heap.size w w.drew:=(tL _ _).drew;have HG:Hid (∀wc,Gr w.drew wc->sD w.heap.size w wc):=fun wc h=>by obtain⟨h1,_⟩:=h;exact aG D h1
 have ii:(i:Int)<(l.length:Int):=by omega
 have ij:(j:Int)<(l.length:Int):=by omega
 clear hb hf hr;generalize tA l i=R at*;generalize tB l i=O at*;generalize tA l j=M at*;generalize tB l j=L at*;generalize l.length=n at*;go_enter Tryz.func335,Tryz.ntmps335;go_wp2_with fail
 go_region_held3 (fun W=>(W.cell? ⟨g,i*2,none⟩=some (.int .i64 R)/\W.cell? ⟨g,i*2+1,none⟩=some (.int .i64 O))/\W.cell? ⟨g,j*2,none⟩=some (.int .i64 M)/\W.cell? ⟨g,j*2+1,none⟩=some (.int .i64 L))
  (first|exact T.out _ s|exact T.out _ D)
  (first|(go_at_call 160;with_reducible refine (yC R O M L _).mono ?_;rintro e wc ⟨rfl,H⟩;have s:=HG.out _ H))
 all_goals
  go_wp2_with fail;go_ret;exact⟨rB HR.out,s⟩
theorem jM.swap {c:Array gD}(h:jM c l l.length)(hi:i<l.length)(s:j<l.length)(hs:l.length*2<=c.size):
  jM ((((c.setIfInBounds (i*2) (.int .i64 (tA l j))).setIfInBounds (i*2+1) (.int .i64 (tB l j))).setIfInBounds (j*2) (.int .i64 (tA l i))).setIfInBounds (j*2+1) (.int .i64 (tB l i))) (eB l i j) l.length:=by
 have h1:=jM.set h hi rfl hs (tA l j) (tB l j);exact jM.set (n:=l.length) h1 s (by simp) (by simpa using hs) (tA l i) (tB l i)
theorem DL {c:Array gD}(hb:Bk w g c 32)(hf:jM c l l.length)(hs:l.length*2<=c.size)(hi:i<l.length)(G:j<l.length):
  gM nX 336 #[.slice (some ⟨g,0,none⟩) l.length cap,.int .i64 i,.int .i64 j] w fun e w'=>e=.returned (.tuple #[])/\∃s:Array gD,Bk w' g s 32/\jM s (eB l i j) l.length/\s.size=c.size/\Bx g w w':=by
 have T:=hb.cell (hf i hi).1;have R:=hb.cell (hf i hi).2;have O:=hb.cell (hf j G).1;have M:=hb.cell (hf j G).2;have V:(i:Int)<(l.length:Int):=by omega
 have U:(j:Int)<(l.length:Int):=by omega
 have HF:Hid (∃s:Array gD,Bk ((((w.drew.setCell ⟨g,i*2,none⟩ (.int .i64 (tA l j))).setCell ⟨g,i*2+1,none⟩ (.int .i64 (tB l j))).setCell ⟨g,j*2,none⟩ (.int .i64 (tA l i))).setCell ⟨g,j*2+1,none⟩ (.int .i64 (tB l i))) g s 32/\jM s (eB l i j) l.length/\s.size=c.size/\Bx g w ((((w.drew.setCell ⟨g,i*2,none⟩ (.int .i64 (tA l j))).setCell ⟨g,i*2+1,none⟩ (.int .i64 (tB l j))).setCell ⟨g,j*2,none⟩ (.int .i64 (tA l i))).setCell ⟨g,j*2+1,none⟩ (.int .i64 (tB l i)))):=
  ⟨_,(((hb.drew.set (i*2) _).set (i*2+1) _).set (j*2) _).set (j*2+1) _,jM.swap hf hi G hs,by simp,((((Bx.refl g w).drew.bj rfl _).bj rfl _).bj rfl _).bj rfl _⟩
 have f0:=hb.free (i*2);have f1:=hb.free (i*2+1);have f2:=hb.free (j*2);have Z:=hb.free (j*2+1);obtain⟨L,D⟩:∃x,(c.setIfInBounds (i*2) (.int .i64 (tA l j)))[j*2]?=some x:=⟨_,Array.getElem?_eq_getElem (by simp;omega)⟩;obtain⟨H,A⟩:∃x,((c.setIfInBounds (i*2) (.int .i64 (tA l j))).setIfInBounds (i*2+1) (.int .i64 (tB l j)))[j*2+1]?=some x:=⟨_,Array.getElem?_eq_getElem (by simp;omega)⟩;have e1:=(hb.set (i*2) (.int .i64 (tA l j))).cell D;have e2:=((hb.set (i*2) (.int .i64 (tA l j))).set (i*2+1) (.int .i64 (tB l j))).cell A;clear hb hf D A;generalize tA l i=a1 at*;generalize tB l i=a2 at*;generalize tA l j=b1 at*;generalize tB l j=b2 at*;generalize hn:l.length=n at*;go_enter Tryz.func336,Tryz.ntmps336;go_wp2_with fail
 go_region
 go_wp2_with fail
 go_end0
 exact⟨rfl,HF.out⟩
def gG (w:fM)(hb g cap:Nat)(l:LI):Prop:=
 Bk w hb #[.slice (some ⟨g,0,none⟩) l.length cap] 303/\(∃c:Array gD,Bk w g c 32/\jM c l l.length/\c.size=cap*2)/\l.length<=cap/\cap<=maxLen/\hb≠g
theorem gG.keep (h:gG w hb g cap l)(hx:sD w.heap.size w w1):gG w1 hb g cap l:=by
 obtain⟨h1,⟨c,h2,h3,h4⟩,h5⟩:=h;exact⟨h1.keep hx,⟨c,h2.keep hx,h3,h4⟩,h5⟩
abbrev DK (hb:Nat):gD:= .iface 305 (.pointer (some ⟨hb,0,none⟩))
theorem gG.swap {s:Array gD}(h:gG w hb g cap l)(A:Bk w1 g s 32)(hf:jM s (eB l i j) l.length)(hs:s.size=cap*2)(hx:Bx g w w1):gG w1 hb g cap (eB l i j):=by
 obtain⟨h1,_,h3,h4,h5⟩:=h;refine⟨?_,⟨s,A,by rw[jQ];exact hf,hs⟩,by rw[jQ];exact h3,h4,h5⟩;unfold Bk;rw[hx.block hb h1.lt h5,jQ];exact h1
theorem Mb (h:0<j):((j:Int)-1).tdiv 2=(((j-1) / 2:Nat):Int):=by
 rw[xU (by omega)];omega
theorem Od {j0:Nat}(h:gG w hb g cap l)(hu:rR l l j0)(hl:l.length<=1000000):
  gM nX 279 #[DK hb,.int .i64 j0] w fun e w'=>e=.returned (.tuple #[])/\∃c:LI,gG w' hb g cap c/\c.length=l.length/\(∀x,x∈c↔x∈l)/\cK c l.length 0/\Bx g w w':=by
 go_enter Tryz.func279,Tryz.ntmps279;go_wp2_with fail
 go_loopw [1] (fun i wr=>∃(j:Nat)(c:LI),i=.int .i64 j/\gG wr hb g cap c/\rR l c j/\Bx g w wr) (fun i _=>(intOf i).toNat)
 case atStart=>exact⟨j0,l,rfl,h,hu,Bx.refl _ _⟩
 case round=>
  clear h hu;obtain⟨j,c,rfl,hM,L,hx⟩:=hrel;have z7:=L.lt;have D:=L.len
  by_cases hj:j=0
  ·subst hj;have i1:mO.wrap (((0:Nat):Int)-1) = -1:=by decide
   have i2:mO.wrap ((-1:Int).tdiv 2)=0:=by decide
   have x4:=L.dw;go_wp2_with fail
   go_end0
   exact⟨rfl,c,hM,D,L.mem,x4,hx⟩
  ·have i1:mO.wrap ((j:Int)-1)=(j:Int)-1:=by rw[jO];omega
   have i2:mO.wrap (((j:Int)-1).tdiv 2)=(((j-1) / 2:Nat):Int):=by rw[Mb (by omega),jO];omega
   have i3:((((j-1) / 2:Nat):Int)==(j:Int))=false:=beq_eq_false_iff_ne.2 (by omega);have O:(j-1) / 2<c.length:=by omega
   have M:j<c.length:=by omega
   have x3:0<j:=by omega
   have HM:=(show Hid (gG wr hb g cap c) from hM);obtain⟨x0,⟨cc,x1,G,h9⟩,z4,z9,hne⟩:=hM;have y1:=rC x0;have HU:=(show Hid (rR l c j) from L);have H:=(show Hid (Bk wr g cc 32/\jM cc c c.length/\cc.size=cap*2) from⟨x1,G,h9⟩);have x9:=(show Hid (c.length=l.length) from D);clear L x1 G h9 x0 D;generalize hI:(j-1) / 2=i at*;have U:=(show Hid ((j-1) / 2=i) from hI);clear hI;cases hr:bJ (gt c j) (gt c i)
   ·go_wp2_with fail;refine (yF H.out.1 H.out.2.1 M O hr).mono ?_;rintro e w1 ⟨rfl,s⟩;go_wp2_with fail
    go_end0
    exact⟨rfl,c,HM.out.keep s,x9.out,HU.out.mem,HU.out.dB (by rw[U.out];exact hr),hx.trans (Bx.aD s)⟩
   ·go_wp2_with fail;refine (yF H.out.1 H.out.2.1 M O hr).mono ?_;rintro e w1 ⟨rfl,s⟩;have y6:=(show Hid (gG w1 hb g cap c) from HM.out.keep s);obtain⟨R,⟨v0,T,A,z3⟩,-,-,-⟩:=HM.out.keep s;have y0:=yP R;clear y1;go_wp2_with fail;refine (DL T A (by omega) O M).mono ?_;rintro e w2 ⟨rfl,c2,x2,Z,z5,V⟩;have y5:=(show Hid (gG w2 hb g cap (eB c i j)) from y6.out.swap x2 Z (by omega) V);have y4:=(show Hid (rR l (eB c i j) i) from by have:=HU.out.step x3 (by rw[U.out];exact hr);rw[U.out]at this;exact this);have z8:i<j:=by have:=U.out;omega
    clear y0 R T A x2 Z;go_wp2_with fail;go_roundw
    case rel=>exact⟨i,eB c i j,rfl,y5.out,y4.out,(hx.trans (Bx.aD s)).trans V⟩
    case measure=>simp[intOf];omega
theorem mV {a b:Int}{c:Array gD}(hb:Bk w g c 32)(hf:jM c l l.length)(ha:a=(i:Int))(s:b=(j:Int))(hi:i<l.length)(A:j<l.length){r:Bool}(hr:bJ (gt l i) (gt l j)=r):
  gM nX 335 #[.slice (some ⟨g,0,none⟩) l.length cap,.int .i64 a,.int .i64 b] w fun e w'=>e=.returned (.bool r)/\sD w.heap.size w w':=by
 subst ha s;exact yF hb hf hi A hr
theorem wM {a b:Int}{c:Array gD}(hb:Bk w g c 32)(hf:jM c l l.length)(ha:a=(i:Int))(A:b=(j:Int))(hs:l.length*2<=c.size)(hi:i<l.length)(D:j<l.length):
  gM nX 336 #[.slice (some ⟨g,0,none⟩) l.length cap,.int .i64 a,.int .i64 b] w fun e w'=>e=.returned (.tuple #[])/\∃s:Array gD,Bk w' g s 32/\jM s (eB l i j) l.length/\s.size=c.size/\Bx g w w':=by
 subst ha A;exact DL hb hf hs hi D
theorem KJ {n:Nat}(h:gG w hb g cap l)(y2:cK l n (i0+1))(hn:n<=l.length)(z7:i0<=n)(hl:l.length<=1000000):
  gM nX 278 #[DK hb,.int .i64 i0,.int .i64 n] w fun e w'=>(∃v,e=.returned v)/\∃c:LI,gG w' hb g cap c/\c.length=l.length/\(∀x,x∈c↔x∈l)/\(∀k,n<=k->gt c k=gt l k)/\cK c n i0/\Bx g w w':=by
 go_enter Tryz.func278,Tryz.ntmps278;go_wp2_with fail
 go_loopw [7] (fun i wr=>∃(j:Nat)(c:LI),i=.int .i64 j/\j<=n/\gG wr hb g cap c/\rQ l c i0 n j/\Bx g w wr) (fun i _=>n-(intOf i).toNat)
 case atStart=>exact⟨i0,l,rfl,z7,h,rQ.start y2,Bx.refl _ _⟩
 case round=>
  clear h y2;obtain⟨i,c,rfl,v2,hM,hD,hx⟩:=hrel;have x1:=hD.len;have i1:mO.wrap (2*(i:Int))=2*(i:Int):=by rw[jO];omega
  have i2:mO.wrap (2*(i:Int)+1)=2*(i:Int)+1:=by rw[jO];omega
  by_cases h1:n<=2*i+1
  ·have g1:(n:Int)<=2*(i:Int)+1:=by omega
   have y3:=hD.dB h1;have O:=(show Hid (∃c:LI,gG wr hb g cap c/\c.length=l.length/\(∀x,x∈c↔x∈l)/\(∀k,n<=k->gt c k=gt l k)/\cK c n i0/\Bx g w wr) from⟨c,hM,x1,hD.mem,hD.far,y3,hx⟩);clear hM hD y3 x1;go_wp2_with fail;go_ret;exact⟨⟨_,rfl⟩,O.out⟩
  ·have g1:¬((n:Int)<=2*(i:Int)+1):=by omega
   have g2:¬(2*(i:Int)+1<0):=by omega
   have i3:mO.wrap (2*(i:Int)+1+1)=2*(i:Int)+1+1:=by rw[jO];omega
   have k1:Hid (2*(i:Int)+1=((2*i+1:Nat):Int)):=by show _=_;omega
   have k2:Hid (2*(i:Int)+1+1=((2*i+2:Nat):Int)):=by show _=_;omega
   have R:i<c.length:=by omega
   have z1:2*i+1<c.length:=by omega
   have HM:=(show Hid (gG wr hb g cap c) from hM);have HD:=(show Hid (rQ l c i0 n i) from hD);have x2:=(show Hid (c.length=l.length) from x1);obtain⟨z3,⟨cc,z4,x8,y8⟩,z9,v3,hne⟩:=hM;have s:=(show Hid (Bk wr g cc 32/\jM cc c c.length/\cc.size=cap*2) from⟨z4,x8,y8⟩);have M:=(show Hid (Bk wr hb #[.slice (some ⟨g,0,none⟩) c.length cap] 303) from z3);have z8:c.length<=1000000:=by omega
   clear hD z4 x8 y8 z3 x1
   by_cases h2:2*i+2<n
   ·have g3:2*(i:Int)+1+1<(n:Int):=by omega
    have z0:2*i+2<c.length:=by have:=x2.out;omega
    have y6:=rC M.out;cases hq:bJ (gt c (2*i+2)) (gt c (2*i+1))
    ·have Z:=(show Hid (sM c n i (2*i+1)) from Hq (by omega) (fun _=>hq));go_wp2_with fail;refine (mV s.out.1 s.out.2.1 (i:=2*i+2) (j:=2*i+1) k2.out k1.out z0 z1 hq).mono ?_;rintro e w1 ⟨rfl,A⟩;clear y6;cases hr:bJ (gt c (2*i+1)) (gt c i)
     ·have D:=rC (M.out.keep A);go_wp2_with fail;refine (mV (s.out.1.keep A) s.out.2.1 (i:=2*i+1) (j:=i) k1.out rfl (by omega) R hr).mono ?_;rintro e L ⟨rfl,H⟩;have O:=(show Hid (∃c:LI,gG L hb g cap c/\c.length=l.length/\(∀x,x∈c↔x∈l)/\(∀k,n<=k->gt c k=gt l k)/\cK c n i0/\Bx g w L) from⟨c,(HM.out.keep A).keep H,x2.out,HD.out.mem,HD.out.far,HD.out.cw Z.out hr,(hx.trans (Bx.aD A)).trans (Bx.aD H)⟩);clear D;go_wp2_with fail;go_ret;exact⟨⟨_,rfl⟩,O.out⟩
     ·have D:=rC (M.out.keep A);go_wp2_with fail;refine (mV (s.out.1.keep A) s.out.2.1 (i:=2*i+1) (j:=i) k1.out rfl (by omega) R hr).mono ?_;rintro e L ⟨rfl,H⟩;have G:sD wr.heap.size wr L:=aG A H;have x5:=(show Hid (gG L hb g cap c) from HM.out.keep G);have x3:=yP (M.out.keep G);have y4:=s.out.2.2;clear D;go_wp2_with fail;refine (wM (s.out.1.keep G) s.out.2.1 (i:=i) (j:=2*i+1) rfl k1.out (by omega) R (by omega)).mono ?_;rintro e w5 ⟨rfl,c2,V,U,y7,T⟩;have x4:=(show Hid (gG w5 hb g cap (eB c i (2*i+1))) from x5.out.swap V U (by omega) T);have x6:=(show Hid (rQ l (eB c i (2*i+1)) i0 n (2*i+1)) from HD.out.step hn Z.out hr);clear x3 V U;go_wp2_with fail;go_roundw
      case rel=>exact⟨2*i+1,eB c i (2*i+1),congrArg _ k1.out,by omega,x4.out,x6.out,(hx.trans (Bx.aD G)).trans T⟩
      case measure=>simp[intOf];omega
    ·have Z:=(show Hid (sM c n i (2*i+2)) from Ov h2 hq);go_wp2_with fail;refine (mV s.out.1 s.out.2.1 (i:=2*i+2) (j:=2*i+1) k2.out k1.out z0 z1 hq).mono ?_;rintro e w1 ⟨rfl,A⟩;clear y6;cases hr:bJ (gt c (2*i+2)) (gt c i)
     ·have D:=rC (M.out.keep A);go_wp2_with fail;refine (mV (s.out.1.keep A) s.out.2.1 (i:=2*i+2) (j:=i) k2.out rfl (by omega) R hr).mono ?_;rintro e L ⟨rfl,H⟩;have O:=(show Hid (∃c:LI,gG L hb g cap c/\c.length=l.length/\(∀x,x∈c↔x∈l)/\(∀k,n<=k->gt c k=gt l k)/\cK c n i0/\Bx g w L) from⟨c,(HM.out.keep A).keep H,x2.out,HD.out.mem,HD.out.far,HD.out.cw Z.out hr,(hx.trans (Bx.aD A)).trans (Bx.aD H)⟩);clear D;go_wp2_with fail;go_ret;exact⟨⟨_,rfl⟩,O.out⟩
     ·have D:=rC (M.out.keep A);go_wp2_with fail;refine (mV (s.out.1.keep A) s.out.2.1 (i:=2*i+2) (j:=i) k2.out rfl (by omega) R hr).mono ?_;rintro e L ⟨rfl,H⟩;have G:sD wr.heap.size wr L:=aG A H;have x5:=(show Hid (gG L hb g cap c) from HM.out.keep G);have x3:=yP (M.out.keep G);have y4:=s.out.2.2;clear D;go_wp2_with fail;refine (wM (s.out.1.keep G) s.out.2.1 (i:=i) (j:=2*i+2) rfl k2.out (by omega) R (by omega)).mono ?_;rintro e w5 ⟨rfl,c2,V,U,y7,T⟩;have x4:=(show Hid (gG w5 hb g cap (eB c i (2*i+2))) from x5.out.swap V U (by omega) T);have x6:=(show Hid (rQ l (eB c i (2*i+2)) i0 n (2*i+2)) from HD.out.step hn Z.out hr);clear x3 V U;go_wp2_with fail;go_roundw
      case rel=>exact⟨2*i+2,eB c i (2*i+2),congrArg _ k2.out,by omega,x4.out,x6.out,(hx.trans (Bx.aD G)).trans T⟩
      case measure=>simp[intOf];omega
   ·have g3:¬(2*(i:Int)+1+1<(n:Int)):=by omega
    have Z:=(show Hid (sM c n i (2*i+1)) from Hq (by omega) (fun e=>absurd e h2));have A:sD wr.heap.size wr wr:=tL _ _;cases hr:bJ (gt c (2*i+1)) (gt c i)
    ·have D:=rC (M.out.keep A);go_wp2_with fail;refine (mV (s.out.1.keep A) s.out.2.1 (i:=2*i+1) (j:=i) k1.out rfl (by omega) R hr).mono ?_;rintro e L ⟨rfl,H⟩;have O:=(show Hid (∃c:LI,gG L hb g cap c/\c.length=l.length/\(∀x,x∈c↔x∈l)/\(∀k,n<=k->gt c k=gt l k)/\cK c n i0/\Bx g w L) from⟨c,(HM.out.keep A).keep H,x2.out,HD.out.mem,HD.out.far,HD.out.cw Z.out hr,(hx.trans (Bx.aD A)).trans (Bx.aD H)⟩);clear D;go_wp2_with fail;go_ret;exact⟨⟨_,rfl⟩,O.out⟩
    ·have D:=rC (M.out.keep A);go_wp2_with fail;refine (mV (s.out.1.keep A) s.out.2.1 (i:=2*i+1) (j:=i) k1.out rfl (by omega) R hr).mono ?_;rintro e L ⟨rfl,H⟩;have G:sD wr.heap.size wr L:=aG A H;have x5:=(show Hid (gG L hb g cap c) from HM.out.keep G);have x3:=yP (M.out.keep G);have y4:=s.out.2.2;clear D;go_wp2_with fail;refine (wM (s.out.1.keep G) s.out.2.1 (i:=i) (j:=2*i+1) rfl k1.out (by omega) R (by omega)).mono ?_;rintro e w5 ⟨rfl,c2,V,U,y7,T⟩;have x4:=(show Hid (gG w5 hb g cap (eB c i (2*i+1))) from x5.out.swap V U (by omega) T);have x6:=(show Hid (rQ l (eB c i (2*i+1)) i0 n (2*i+1)) from HD.out.step hn Z.out hr);clear x3 V U;go_wp2_with fail;go_roundw
     case rel=>exact⟨2*i+1,eB c i (2*i+1),congrArg _ k1.out,by omega,x4.out,x6.out,(hx.trans (Bx.aD G)).trans T⟩
     case measure=>simp[intOf];omega
structure HF (hb:Nat)(w w':fM):Prop where
 os:w'.os=w.os
 tape:w'.tape=w.tape
 output:w'.output=w.output
 size:w.heap.size<=w'.heap.size
 keep:∀k,k<w.heap.size->k≠hb->cD w hb≠some k->w'.heap[k]?=w.heap[k]?
 arr:cD w' hb=cD w hb\/∃q,cD w' hb=some q/\w.heap.size<=q/\q<w'.heap.size
theorem HF.refl (hb:Nat)(w:fM):HF hb w w:=⟨rfl,rfl,rfl,oU _,fun _ _ _ _=>rfl,.inl rfl⟩
theorem HF.trans {A B C:fM}(h:HF hb A B)(k:HF hb B C):HF hb A C where
 os:=k.os.trans h.os
 tape:=k.tape.trans h.tape
 output:=k.output.trans h.output
 size:=qV h.size k.size
 keep i hi hm ha:=by
  rw[<- h.keep i hi hm ha];refine k.keep i (pU hi h.size) hm ?_
  rcases h.arr with e|⟨q,e,hq,_⟩
  ·rw[e];exact ha
  ·rw[e];intro G;cases G;omega
 arr:=by
  rcases k.arr with e|⟨q,e,hq,s⟩
  ·rcases h.arr with D|⟨q,D,hq,s⟩
   ·exact .inl (e.trans D)
   ·exact .inr ⟨q,e.trans D,hq,pU s k.size⟩
  ·exact .inr ⟨q,e,qV h.size hq,s⟩
theorem HF.below (h:sD W.heap.size W W')(hm:hb<W.heap.size):HF hb W W':=
 ⟨h.os,h.tape,h.output,h.size,fun k s _ _=>h.block k s,.inl (aB (h.block hb hm))⟩
theorem iO {t:gX}(h:Bk w hb #[v] t):cD w hb=v.ownBlock:=by
 unfold cD;rw[h.cell (i:=0) (v:=v) rfl];rfl
theorem HF.ef {t:gX}(h:Bx g w w')(s:Bk w hb #[v] t)(A:v.ownBlock=some g)(hne:hb≠g):HF hb w w':=by
 have e:=iO s;refine⟨h.os,h.tape,h.output,h.size,fun k D _ ha=>h.block k D (fun G=>ha (by rw[e,A,G])),.inl (aB (h.block hb s.lt hne))⟩
theorem HF.ed {v':gD}{t:gX}(h:Bx hb w w')(A:Bk w hb #[v] t)(s:Bk w' hb #[v'] t)(D:v'.ownBlock=v.ownBlock):HF hb w w':=
 ⟨h.os,h.tape,h.output,h.size,fun k G hm _=>h.block k G hm,.inl (by rw[iO A,iO s,D])⟩
theorem HF.bk {c:Array gD}{t:gX}(h:HF hb w w')(s:Bk w k c t)(hm:k≠hb)(ha:cD w hb≠some k):Bk w' k c t:=by
 unfold Bk;rw[h.keep k s.lt hm ha];exact s
def Hp (w:fM)(hb:Nat)(l:LI):Prop:=∃v:gD,Bk w hb #[v] 303/\bW w 0 v l/\v.ownBlock≠some hb
theorem Hp.keep (h:Hp w hb l)(hx:sD w.heap.size w w1):Hp w1 hb l:=by
 obtain⟨v,h1,h2,h3⟩:=h;exact⟨v,h1.keep hx,cC h2 hx,h3⟩
theorem Hp.open (h:Hp w hb l):(Bk w hb #[.slice none 0 0] 303/\l=[])\/∃g cap,gG w hb g cap l:=by
 obtain⟨v,h1,h2,h3⟩:=h
 rcases mZ h2 with⟨rfl,rfl⟩|⟨g,cap,c,rfl,_,s,hs,A,hm,hf⟩
 ·exact .inl ⟨h1,rfl⟩
 ·exact .inr ⟨g,cap,h1,⟨c,s,hf,hs⟩,A,hm,fun e=>h3 (by rw[e];rfl)⟩
theorem gG.hp (h:gG w hb g cap l):Hp w hb l:=by
 obtain⟨h1,⟨c,h2,h3,h4⟩,h5,h6,h7⟩:=h;exact⟨_,h1,AE h2 h3 h4 h5 h6 (oW _),fun e=>h7 (by simpa[tJ]using e.symm)⟩
theorem gG.frame (h:gG w hb g cap l)(hx:Bx g w w1):HF hb w w1:=HF.ef hx h.1 rfl h.2.2.2.2
theorem gG.pop (h:gG w hb g cap l)(H:l.length=k+1)(s:Bk w1 hb #[.slice (some ⟨g,0,none⟩) k cap] 303)(hx:Bx hb w w1):gG w1 hb g cap (l.take k):=by
 obtain⟨h1,⟨c,h2,h3,h4⟩,h5,h6,h7⟩:=h;have e:(l.take k).length=k:=by rw[nB];omega
 refine⟨by rw[e];exact s,⟨c,h2.aN hx (fun G=>h7 G.symm),fun i hi=>?_,h4⟩,by omega,h6,h7⟩;rw[e]at hi;have:=h3 i (by omega);have D:tA (l.take k) i=tA l i:=congrArg (·.1) (mD (l:=l) hi);have A:tB (l.take k) i=tB l i:=congrArg (·.2) (mD (l:=l) hi);rw[D,A];exact this
theorem Nf (h:gG w hb g cap l)(H:l.length=k+1):
  gM nX 337 #[.pointer (some ⟨hb,0,none⟩)] w fun e w'=>e=.returned (.iface 32 (tv (gt l k).1 (gt l k).2))/\gG w' hb g cap (l.take k)/\Bx hb w w':=by
 have U:=(show Hid (gG w hb g cap l) from h);obtain⟨A,⟨c,D,s,L⟩,R,M,hne⟩:=h;have c0:=A.cell (i:=0) rfl;have f0:=A.free 0;have h9:=A.lt;have Z:=D.lt;have q0:=D.cell (s k (by omega)).1;have q1:=D.cell (s k (by omega)).2;have O:Hid (∀w',Bk w' hb #[.slice (some ⟨g,0,none⟩) k cap] 303->Bx hb w w'->gG w' hb g cap (l.take k)):=fun w' h1 h2=>U.out.pop H h1 h2;have V:=(show Hid (Bk w hb #[.slice (some ⟨g,0,none⟩) l.length cap] 303) from A);have i1:mO.wrap ((l.length:Int)-1)=(k:Int):=by unfold maxLen at M;rw[jO];omega
 have i2:(k:Int)<(l.length:Int):=by omega
 have i3:(k:Int)<=(cap:Int):=by omega
 have i4:k<=cap:=by omega
 have i5:k<l.length:=by omega
 rw[Nq];clear A D s L H;generalize tA l k=X at*;generalize tB l k=Y at*;generalize l.length=n at*;go_enter Tryz.func337,Tryz.ntmps337;go_wp2_with fail;go_ret;have T:=((V.out.set 0 (.slice (some ⟨g,0,none⟩) k cap)).alloc (.cells #[.int .i64 X,.int .i64 Y] 32));have G:=((Bx.refl hb w).bj (p:=⟨hb,0,none⟩) rfl (.slice (some ⟨g,0,none⟩) k cap)).alloc (.cells #[.int .i64 X,.int .i64 Y] 32);exact⟨rfl,O.out _ T G,G⟩
theorem HF.grow {s:fM}{u:gD}{t:gX}(hb:Bk W m #[v] t)(hg:W.grownBy s v.ownBlock)(L:v.ownBlock≠some m)(M:u.ownBlock=v.ownBlock\/∃q,u.ownBlock=some q/\W.heap.size<=q/\q<s.heap.size):
  Bk (s.setCell ⟨m,0,none⟩ u) m #[u] t/\HF m W (s.setCell ⟨m,0,none⟩ u):=by
 have hm:=hb.lt;have e0:cD W m=v.ownBlock:=iO hb;have H:Bk s m #[v] t:=by
  unfold Bk;rw[hg.block m hm (fun e=>L e.symm)];exact hb
 have A:=H.set 0 u;have D:(s.setCell ⟨m,0,none⟩ u).heap.size=s.heap.size:=by simp
 refine⟨A,?_,?_,?_,by rw[D];exact hg.size,fun k O G ha=>?_,?_⟩
 ·exact hg.os
 ·exact hg.tape
 ·exact hg.output
 ·rw[tM _ _ _ _ (show k≠(⟨m,0,none⟩:iM).block from G),hg.block k O (fun e=>ha (by rw[e0,e]))]
 ·rw[iO A,e0,D];exact M
section
variable {P:iP}
theorem LX {ops:Array Oper}{o:Oper}{a:Act}{K:Act->fM->Prop}{Q:Exit->Act->fM->Prop}{E:Prop}(w:fM)(M:o.guard=none)(s x:Operand)
  (ho:o.op=.call { callee:= .builtin .append,args:=#[s,x],argTypes:=#[303,303] }) (v:gD) (l:LI) (hs:a.eval s=v) (A:bW w 0 v l) (D:Nat) (X Y:Int)
  (hx:a.eval x=.slice (some ⟨D,0,none⟩) 1 1) (O:∀j u,[tK .i64 X,tK .i64 Y][j]?=some u->w.cell? ((⟨D,0,none⟩:iM).add j)=some u) (hl:l.length<=2000000)
  (h:∀g cap w',bW w' 0 (.slice (some ⟨g,0,none⟩) (l.length+1) cap) (l++[(X,Y)])->w.grownBy w' v.ownBlock->(v.ownBlock=some g\/g=w.heap.size)->g<w'.heap.size->K (a.put o.dst (.slice (some ⟨g,0,none⟩) (l.length+1) cap)) w'):
  if Region.wanted o (yielded ops a.tmps)=true then Oper.wp nX o a w K Q else E:=by
 obtain⟨i0,hi,L,H,G⟩:=info_parts rV;refine step_append_lies (P:=nX) (w:=w) M s x 303 ho 0 32 i0 (.agg #[.int .i64 0,.int .i64 0]) 2 16 Tryz.underlying303 hi L H G rfl (by decide) v l.length (jR l) hs A ⟨D,0,none⟩ 1 1 [.int .i64 X,.int .i64 Y] hx rfl O (rY _ _) (by omega) (by unfold maxLen;omega) (by omega) (oW _) w.heap.size rfl ?_;intro g cap w' h1 h2 h3 h4;refine h g cap w' ?_ h2 h3 h4
 show w'.ownsRow _ _ _ _ _ _
 rw[mC];simpa using h1
end
theorem IE (X Y:Int)(w:fM):(Instr.typeAssert (.iface 32 (tv X Y)) 20 32 false).run nX w=.ok (tv X Y) w:=by kernel_rfl
theorem Fc {A:fM}(D:Bk w hb #[v] 303)(L:v.ownBlock≠some hb)(H:sD w.heap.size w w1)(h1:bW A 0 (.slice (some ⟨g,0,none⟩) (l.length+1) cap) (l++[(X,Y)]))(h2:w1.grownBy A v.ownBlock)(h3:v.ownBlock=some g\/g=w1.heap.size)(h4:g<A.heap.size):
  A.frozen? ⟨hb,0,none⟩=false/\A.cell? ⟨hb,0,none⟩=some v/\Hid (Hp (A.setCell ⟨hb,0,none⟩ (.slice (some ⟨g,0,none⟩) (l.length+1) cap)) hb (l++[(X,Y)])/\HF hb w (A.setCell ⟨hb,0,none⟩ (.slice (some ⟨g,0,none⟩) (l.length+1) cap))):=by
 have s:=D.keep H;have G:Bk A hb #[v] 303:=by unfold Bk;rw[h2.block hb s.lt (fun e=>L e.symm)];exact s
 have hg:g≠hb:=by
  rcases h3 with h3|h3
  ·intro e;exact L (by rw[h3,e])
  ·have:=s.lt;omega
 obtain⟨O,M⟩:=HF.grow (u:= .slice (some ⟨g,0,none⟩) (l.length+1) cap) s h2 L (by
  rcases h3 with h3|h3
  ·exact .inl (by rw[h3];rfl)
  ·exact .inr ⟨g,rfl,by omega,h4⟩)
 refine⟨G.free 0,G.cell (i:=0) (v:=v) rfl,⟨_,O,?_,fun e=>hg (by simpa[tJ]using e)⟩,(HF.below H D.lt).trans M⟩;exact fB h1 fun q e=>tM _ _ _ _ (show q≠hb from fun R=>hg (by rw[<- R];simpa[tJ]using e))
theorem Lm (h:Hp w hb l)(hl:l.length<=1000000):
  gM nX 338 #[.pointer (some ⟨hb,0,none⟩),.iface 32 (tv X Y)] w fun e w'=>e=.returned (.tuple #[])/\Hp w' hb (l++[(X,Y)])/\HF hb w w':=by
 obtain⟨v,A,D,R⟩:=h;have c0:=A.cell (i:=0) (v:=v) rfl;have f0:=A.free 0;have x0:=A.lt;have G:sD w.heap.size w (w.drew.alloc (.cells #[.int .i64 X,.int .i64 Y] 32)):=aH (tL _ _).drew _;have T:Hid (bW (w.drew.alloc (.cells #[.int .i64 X,.int .i64 Y] 32)) 0 v l):=cC D G;have Z:Hid (∀g cap s,bW s 0 (.slice (some ⟨g,0,none⟩) (l.length+1) cap) (l++[(X,Y)])->(w.drew.alloc (.cells #[.int .i64 X,.int .i64 Y] 32)).grownBy s v.ownBlock->(v.ownBlock=some g\/g=(w.drew.alloc (.cells #[.int .i64 X,.int .i64 Y] 32)).heap.size)->g<s.heap.size ->
   s.frozen? ⟨hb,0,none⟩=false/\s.cell? ⟨hb,0,none⟩=some v/\Hid (Hp (s.setCell ⟨hb,0,none⟩ (.slice (some ⟨g,0,none⟩) (l.length+1) cap)) hb (l++[(X,Y)])/\HF hb w (s.setCell ⟨hb,0,none⟩ (.slice (some ⟨g,0,none⟩) (l.length+1) cap)))):=fun g cap s h1 h2 h3 h4=>Fc A R G h1 h2 h3 h4
 have HN:Hid (∀j u,[tK .i64 X,tK .i64 Y][j]?=some u->(w.drew.alloc (.cells #[.int .i64 X,.int .i64 Y] 32)).cell? ((⟨w.drew.heap.size,0,none⟩:iM).add j)=some u):=BU _ _ _ _;have ta:=IE X Y w.drew;clear A D R G;go_enter Tryz.func338,Tryz.ntmps338;go_wp2_with fail
 go_region_law (refine LX _ (by rfl) (.tmp 7) (.tmp 10) (by rfl) v l (by simp[Act.eval]) T.out w.heap.size X Y (by simp[Act.eval]) HN.out (by omega) ?_;intro g3 V s O M L H;obtain⟨fz,cz,U⟩:=Z.out _ _ _ O M L H;clear O M L H)
 all_goals
  go_wp2_with fail
  go_end0
  exact⟨rfl,U.out⟩
theorem Et {n:Nat}{a b:Int}(h:gG w hb g cap l)(s:cK l n (i0+1))(hn:n<=l.length)(A:i0<=n)(hl:l.length<=1000000)(ha:a=(i0:Int))(D:b=(n:Int)):
  gM nX 278 #[DK hb,.int .i64 a,.int .i64 b] w fun e w'=>(∃v,e=.returned v)/\∃c:LI,gG w' hb g cap c/\c.length=l.length/\(∀x,x∈c↔x∈l)/\(∀k,n<=k->gt c k=gt l k)/\cK c n i0/\Bx g w w':=by
 subst ha D;exact KJ h s hn A hl
theorem Pv {j0:Nat}{a:Int}(h:gG w hb g cap l)(s:rR l l j0)(hl:l.length<=1000000)(ha:a=(j0:Int)):
  gM nX 279 #[DK hb,.int .i64 a] w fun e w'=>e=.returned (.tuple #[])/\∃c:LI,gG w' hb g cap c/\c.length=l.length/\(∀x,x∈c↔x∈l)/\cK c l.length 0/\Bx g w w':=by
 subst ha;exact Od h s hl
theorem Ma (h:Hp w hb l)(hL:cK l l.length 0)(h0:0<l.length)(hl:l.length<=1000000):
  gM nX 263 #[DK hb] w fun e w'=>e=.returned (.iface 32 (tv (gt l 0).1 (gt l 0).2))/\∃c:LI,Hp w' hb c/\c.length+1=l.length/\(∀x,x∈l↔x=gt l 0\/x∈c)/\cK c c.length 0/\HF hb w w':=by
 rcases h.open with⟨_,rfl⟩|⟨g,cap,hM⟩
 ·simp at h0
 obtain⟨k,hk⟩:∃k,l.length=k+1:=⟨l.length-1,by omega⟩;have HM:=(show Hid (gG w hb g cap l) from hM);obtain⟨M,⟨cc,x1,D,x0⟩,z5,v0,hne⟩:=hM;have x9:=J3 M;have x7:=yP M;have G:=(show Hid (Bk w g cc 32/\jM cc l l.length/\cc.size=cap*2) from⟨x1,D,x0⟩);have A:=(show Hid (l.length=k+1) from hk);have z0:=(show Hid (cK l l.length 0) from hL);have i1:mO.wrap ((l.length:Int)-1)=(k:Int):=by rw[jO];omega
 clear M x1 D x0 h hk hL;go_enter Tryz.func263,Tryz.ntmps263;go_wp2_with fail;refine (AX _ _ _ _).mono ?_;rintro e w0 ⟨rfl,rfl⟩;clear x9;go_wp2_with fail;refine (wM (i:=0) (j:=k) G.out.1 G.out.2.1 rfl rfl (by have:=G.out.2.2;omega) (by omega) (by have:=A.out;omega)).mono ?_;rintro e w1 ⟨rfl,c1,x2,h9,z9,U⟩;have y5:=(show Hid (gG w1 hb g cap (eB l 0 k)) from HM.out.swap x2 h9 (by have:=G.out.2.2;omega) U);have y8:Hid (cK (eB l 0 k) k (0+1)):=by
  have:=PI z0.out h0;rw[show l.length-1=k from by have:=A.out;omega]at this;exact this
 clear x7 x2 h9;go_wp2_with fail;refine (Et (i0:=0) (n:=k) y5.out y8.out (by rw[jQ];have:=A.out;omega) (by omega) (by rw[jQ];exact hl) rfl rfl).mono ?_;rintro e R ⟨⟨v2,rfl⟩,c2,x4,L,V,s,H,y0⟩;have x8:=RC ⟨hb,0,none⟩ R;have x5:=(show Hid (gG R hb g cap c2) from x4);have O:Hid (c2.length=k+1):=by show _=_;rw[L,jQ];exact A.out
 have HG:Hid (gt c2 k=gt l 0):=by
  show _=_
  rw[s k (oU _),nP h0 (by have:=A.out;omega),if_pos rfl]
 have y4:Hid (∀x,x∈l↔x=gt l 0\/x∈c2.take k):=fun x=>by
  have e:l.length-1=k:=by have:=A.out;omega
  have:=PJ (c:=c2) h0 (.inr ⟨by rw[L,jQ],by rw[e];exact V,fun k' Z=>by rw[e]at Z ⊢;exact s k' Z⟩) x;rw[e]at this;exact this
 have y7:Hid (cK (c2.take k) (c2.take k).length 0):=KM H (by have:=O.out;omega);have HX:Hid (HF hb w0 R):=HM.out.frame (U.trans y0);clear x4 L V s H;go_wp2_with fail;refine (Nf x5.out O.out).mono ?_;rintro e w3 ⟨rfl,x3,T⟩;have z1:Hid (HF hb R w3):=HF.ed T x5.out.1 x3.1 rfl;clear x8 T;go_wp2_with fail;go_ret;refine⟨by rw[HG.out];rfl,c2.take k,x3.hp,?_,y4.out,y7.out,HX.out.trans z1.out⟩;rw[nB];have:=O.out;have:=A.out;omega
theorem KL (h:Hp w hb l)(U:cK l l.length 0)(hl:l.length+1<=1000000):
  gM nX 264 #[DK hb,.iface 32 (tv X Y)] w fun e w'=>e=.returned (.tuple #[])/\∃c:LI,Hp w' hb c/\c.length=l.length+1/\(∀x,x∈c↔x∈l\/x=(X,Y))/\cK c c.length 0/\HF hb w w':=by
 have M:=Q5 ⟨hb,0,none⟩ w;have HU:Hid (rR (l++[(X,Y)]) (l++[(X,Y)]) l.length):=rR.start U;have HH:=(show Hid (Hp w hb l) from h);clear h U;go_enter Tryz.func264,Tryz.ntmps264;go_wp2_with fail;refine (Lm (X:=X) (Y:=Y) HH.out (by omega)).mono ?_;rintro e w1 ⟨rfl,A,V⟩;have s:(l++[(X,Y)]).length=l.length+1:=by simp
 rcases A.open with⟨_,e⟩|⟨g,cap,H⟩
 ·simp at e
 have Z:=(show Hid (gG w1 hb g cap (l++[(X,Y)])) from H);have O:=J3 H.1;have i1:mO.wrap (((l++[(X,Y)]).length:Int)-1)=(l.length:Int):=by rw[jO,s];omega
 have D:=(show Hid ((l++[(X,Y)]).length=l.length+1) from s);have L:Hid (∀x,x∈l++[(X,Y)]↔x∈l\/x=(X,Y)):=fun x=>by simp
 clear M A H s;generalize R:l++[(X,Y)]=l1 at*;clear R;go_wp2_with fail;refine (AX _ _ _ _).mono ?_;rintro e w0 ⟨rfl,rfl⟩;clear O;go_wp2_with fail;refine (Pv (j0:=l.length) Z.out HU.out (by have:=D.out;omega) rfl).mono ?_;rintro e w2 ⟨rfl,c,T,hc,hm,G,hx⟩;go_wp2_with fail
 go_end0
 refine⟨rfl,c,T.hp,by have:=D.out;omega,fun x=>(hm x).trans (L.out x),by rw[hc];exact G,V.trans (Z.out.frame hx)⟩
theorem KK (h:Hp w hb l)(hl:l.length<=1000000):
  gM nX 262 #[DK hb] w fun e w'=>e=.returned (.tuple #[])/\∃c:LI,Hp w' hb c/\c.length=l.length/\(∀x,x∈c↔x∈l)/\cK c c.length 0/\HF hb w w':=by
 obtain⟨v,H,A,hv⟩:=h;have HH:Hid (Hp w hb l):=⟨v,H,A,hv⟩;obtain⟨ad,cap,rfl⟩:∃ad cap,v=.slice ad l.length cap:=by
  rcases mZ A with⟨rfl,rfl⟩|⟨g,cap,c,rfl,_⟩
  ·exact⟨_,_,rfl⟩
  ·exact⟨_,_,rfl⟩
 have O:=J3 H;clear H A hv;obtain⟨n,hn⟩:∃n,l.length=n:=⟨_,rfl⟩;rw[hn]at O;have HN:=(show Hid (l.length=n) from hn);have i1:mO.wrap ((n:Int).tdiv 2)=((n / 2:Nat):Int):=by
  rw[xU (by omega),jO];omega
 have h9:Hid (cK l n (n / 2)):=fun m h0 hm hi=>by omega
 obtain⟨z,i2,D⟩:∃z:Int,mO.wrap (((n / 2:Nat):Int)-1)=z/\((z = -1/\n / 2=0)\/∃k:Nat,z=(k:Int)/\n / 2=k+1):=by
  by_cases h0:n / 2=0
  ·exact⟨_,by rw[h0];rfl,.inl ⟨rfl,h0⟩⟩
  ·exact⟨((n / 2-1:Nat):Int),by rw[jO];omega,.inr ⟨_,rfl,by omega⟩⟩
 have HZ:=(show Hid ((z = -1/\n / 2=0)\/∃k:Nat,z=(k:Int)/\n / 2=k+1) from D);have y4:n<=1000000:=by omega
 clear D hl hn;generalize hq:n / 2=q at i1 i2;clear hq;go_enter Tryz.func262,Tryz.ntmps262;go_wp2_with fail;refine (AX _ _ _ _).mono ?_;rintro e w0 ⟨rfl,rfl⟩;clear O;go_wp2_with fail
 go_loopw [3] (fun i wr=>∃c:LI,((i=.int .i64 (-1)/\cK c n 0)\/∃j:Nat,i=.int .i64 j/\2*j+1<n/\cK c n (j+1))/\Hp wr hb c/\c.length=n/\(∀x,x∈c↔x∈l)/\HF hb w0 wr) (fun i _=>(intOf i+1).toNat)
 case atStart=>
  refine⟨l,?_,HH.out,HN.out,fun _=>Iff.rfl,HF.refl _ _⟩
  rcases HZ.out with⟨rfl,h0⟩|⟨k,rfl,h1⟩
  ·refine .inl ⟨congrArg _ (by omega),?_⟩;have:=h9.out;rw[h0]at this;exact this
  ·refine .inr ⟨k,congrArg _ (by omega),by omega,?_⟩;have:=h9.out;rw[h1]at this;exact this
 case round=>
  clear i1 i2;obtain⟨c,hi,hH,G,hm,hF⟩:=hrel
  rcases hi with⟨rfl,s⟩|⟨j,rfl,hj,s⟩
  ·go_wp2_with fail
   go_end0
   exact⟨rfl,c,hH,by rw[G];exact HN.out.symm,hm,by rw[G];exact s,hF⟩
  ·have g1:(0:Int)<=(j:Int):=by omega
   rcases hH.open with⟨_,rfl⟩|⟨g,x3,hM⟩
   ·simp at G;omega
   have HM:=(show Hid (gG wr hb g x3 c) from hM);have y0:=(show Hid (cK c n (j+1)) from s);have M:=(show Hid (c.length=n/\∀x,x∈c↔x∈l) from⟨G,hm⟩);clear hH hM s G hm;obtain⟨L,i2,D⟩:∃z:Int,mO.wrap ((j:Int)-1)=z/\((z = -1/\j=0)\/∃k:Nat,z=(k:Int)/\j=k+1):=by
    by_cases h0:j=0
    ·exact⟨_,by rw[h0];rfl,.inl ⟨rfl,h0⟩⟩
    ·exact⟨((j-1:Nat):Int),by rw[jO];omega,.inr ⟨_,rfl,by omega⟩⟩
   have Z:=(show Hid ((L = -1/\j=0)\/∃k:Nat,L=(k:Int)/\j=k+1) from D);clear D;go_wp2_with fail;refine (Et (i0:=j) (n:=n) HM.out y0.out (by have:=M.out.1;omega) (by omega) (by have:=M.out.1;omega) rfl rfl).mono ?_;rintro e w2 ⟨⟨v2,rfl⟩,c2,V,U,T,x1,s,R⟩;have HR:Hid (∃c:LI,((tK .i64 L=.int .i64 (-1)/\cK c n 0)\/∃j:Nat,tK .i64 L=.int .i64 j/\2*j+1<n/\cK c n (j+1))/\Hp w2 hb c/\c.length=n/\(∀x,x∈c↔x∈l)/\HF hb w0 w2):=by
    refine⟨c2,?_,V.hp,U.trans M.out.1,fun x=>(T x).trans (M.out.2 x),hF.trans (HM.out.frame R)⟩
    rcases Z.out with⟨rfl,rfl⟩|⟨k,rfl,rfl⟩
    ·exact .inl ⟨rfl,s⟩
    ·exact .inr ⟨k,rfl,by omega,s⟩
   clear V U T x1 s R;go_wp2_with fail;go_roundw
   case rel=>exact HR.out
   case measure=>simp only[intOf];rcases Z.out with⟨rfl,rfl⟩|⟨k,rfl,rfl⟩<;>omega
def jU (s t:Int×Int):Int×Int:=(max s.1 t.1,max s.2 t.2)
structure pC (l:List Rw)(n:Nat)(next:LI):Prop where
 le:n<=(jT l).length
 inn:∀x∈next,x∈jT l
 rows:∀r∈l,r.1.2∈(jT l).take n\/r.1.2∈next
 joins:∀p∈(jT l).take n,∀q∈(jT l).take n,jU p q∈(jT l).take n\/jU p q∈next
 late:∀p∈(jT l).take n,∀x∈next,kQ p x
theorem Hl {l:List Rw}(h:aZ l=true){r:Rw}(hr:r∈l):r.1.2∈jT l:=by
 rw[kX,sJ];refine⟨?_,r,hr,r,hr,by omega,by omega⟩;have:=eZ h hr;exact pO this
theorem Hk {l:List Rw}{s:Int×Int}(hs:s∈jT l)(M:t∈jT l):jU s t∈jT l:=by
 rw[kX,sJ]at *;obtain⟨h1,p,hp,q,hq,V,U⟩:=hs;obtain⟨O,G,L,D,H,T,R⟩:=M;rw[fH]at *;refine⟨by simp only[jU];omega,?_⟩;have:∃a∈l,a.1.2.1=max s.1 t.1/\a.1.2.2<=max s.2 t.2:=by
  have:max p.1.2.1 q.1.2.1=max s.1 t.1\/max G.1.2.1 D.1.2.1=max s.1 t.1:=by omega
  rcases this with e|e
  ·have:p.1.2.1=max s.1 t.1\/q.1.2.1=max s.1 t.1:=by omega
   rcases this with A|A
   ·exact⟨p,hp,A,by omega⟩
   ·exact⟨q,hq,A,by omega⟩
  ·have:G.1.2.1=max s.1 t.1\/D.1.2.1=max s.1 t.1:=by omega
   rcases this with A|A
   ·exact⟨G,L,A,by omega⟩
   ·exact⟨D,H,A,by omega⟩
 obtain⟨a,ha,a1,a2⟩:=this;have:∃b∈l,b.1.2.2=max s.2 t.2/\b.1.2.1<=max s.1 t.1:=by
  have:max p.1.2.2 q.1.2.2=max s.2 t.2\/max G.1.2.2 D.1.2.2=max s.2 t.2:=by omega
  rcases this with e|e
  ·have:p.1.2.2=max s.2 t.2\/q.1.2.2=max s.2 t.2:=by omega
   rcases this with A|A
   ·exact⟨p,hp,A,by omega⟩
   ·exact⟨q,hq,A,by omega⟩
  ·have:G.1.2.2=max s.2 t.2\/D.1.2.2=max s.2 t.2:=by omega
   rcases this with A|A
   ·exact⟨G,L,A,by omega⟩
   ·exact⟨D,H,A,by omega⟩
 obtain⟨b,hb,b1,Z⟩:=this;exact⟨a,ha,b,hb,by simp only[jU];omega,by simp only[jU];omega⟩
theorem pC.start {l:List Rw}{next:LI}(h:aZ l=true)(hm:∀x,x∈next↔x∈l.map fun r=>r.1.2):pC l 0 next where
 le:=oW _
 inn x hx:=by
  obtain⟨r,hr,rfl⟩:=List.mem_map.1 ((hm x).1 hx);exact Hl h hr
 rows r hr:= .inr ((hm _).2 (List.mem_map_of_mem hr))
 joins p hp:=by simp at hp
 late p hp:=by simp at hp
theorem Iz (s t:Int×Int):kQ s (jU s t):=by rw[vN];simp only[jU];omega
theorem BK (s t:Int×Int):kQ t (jU s t):=by rw[vN];simp only[jU];omega
theorem pC.ahead {l:List Rw}{n:Nat}{next:LI}(h:pC l n next)(D:∀x∈next,kQ t x){y:Int×Int}(H:y∈jT l)(A:bJ y t=true):y∈(jT l).take n:=by
 rw[kX,sJ]at H;obtain⟨_,p,hp,q,hq,M,L⟩:=H;have s:∀x∈next,¬kQ x y:=fun x hx e=>by
  have:=pL (D x hx) e;unfold kQ at this;rw[this]at A;cases A
 have G:jU p.1.2 q.1.2=y:=Prod.ext M L;have h1:p.1.2∈(jT l).take n:=(h.rows p hp).resolve_right fun hx=>s _ hx (by rw[<- G];exact Iz _ _);have h2:q.1.2∈(jT l).take n:=(h.rows q hq).resolve_right fun hx=>s _ hx (by rw[<- G];exact BK _ _);have h3:=h.joins _ h1 _ h2;rw[G]at h3;exact h3.resolve_right fun hx=>s _ hx (wV _)
theorem Bl (h:l.Pairwise fun p q=>bJ p q=true)(A:i<j)(s:j<l.length):bJ (gt l i) (gt l j)=true:=by
 rw[List.pairwise_iff_getElem]at h;have:=h i j (by omega) s A
 simpa[gt,show i<l.length from by omega,s]using this
theorem Kn :bJ t t=false:=by rw[Bool.eq_false_iff];intro e;rw[FE]at e;omega
theorem jF {n:Nat}(hn:n<=l.length):x∈l.take n↔∃j,j<n/\gt l j=x:=by
 constructor
 ·intro h;obtain⟨k,s,e⟩:=qC h;rw[nB]at s;exact⟨k,by omega,by rw[<- mD (n:=n) (by omega)];exact e⟩
 ·rintro⟨j,A,rfl⟩;rw[<- mD A];exact iY (by rw[nB];omega)
theorem pC.next {l:List Rw}{n:Nat}{next:LI}(h:pC l n next)(G:t∈next)(D:∀x∈next,kQ t x)(A:t ∉ (jT l).take n):n<(jT l).length/\gt (jT l) n=t:=by
 obtain⟨j,L,e⟩:=qC (h.inn t G);have hs:=rX l;have O:n<=j:=by
  by_cases hq:n<=j
  ·exact hq
  ·exact absurd ((jF h.le).2 ⟨j,by omega,e⟩) A
 by_cases hq:n=j
 ·exact⟨by omega,by rw[hq];exact e⟩
 ·exfalso
  have s:=Bl hs (i:=n) (j:=j) (by omega) L;rw[e]at s;have:=h.ahead D (iY (by omega)) s;obtain⟨k,H,M⟩:=(jF h.le).1 this;have h3:=Bl hs H (by omega);rw[M,Kn]at h3;cases h3
theorem pC.last {l:List Rw}{n:Nat}{next:LI}(h:pC l n next)(A:t∈next)(s:t∈(jT l).take n):0<n/\gt (jT l) (n-1)=t:=by
 obtain⟨k,D,e⟩:=(jF h.le).1 s;refine⟨by omega,?_⟩;have h1:=h.late (gt (jT l) (n-1)) ((jF h.le).2 ⟨n-1,by omega,rfl⟩) t A
 by_cases hq:k=n-1
 ·rw[<- hq];exact e
 ·have h2:=Bl (rX l) (i:=k) (j:=n-1) (by omega) (by have:=h.le;omega);rw[e]at h2;unfold kQ at h1;rw[h1]at h2;cases h2
theorem pC.skip {l:List Rw}{n:Nat}{next:LI}(h:pC l n next)(s:t∈(jT l).take n)(hm:∀x,x∈next↔x=t\/x∈c):pC l n c where
 le:=h.le
 inn x hx:=h.inn x ((hm x).2 (.inr hx))
 rows r hr:=by
  rcases h.rows r hr with h1|h1
  ·exact .inl h1
  ·rcases (hm _).1 h1 with e|e
   ·exact .inl (by rw[e];exact s)
   ·exact .inr e
 joins p hp q hq:=by
  rcases h.joins p hp q hq with h1|h1
  ·exact .inl h1
  ·rcases (hm _).1 h1 with e|e
   ·exact .inl (by rw[e];exact s)
   ·exact .inr e
 late p hp x hx:=h.late p hp x ((hm x).2 (.inr hx))
theorem Ez (t:Int×Int):jU t t=t:=by unfold jU;exact Prod.ext (by simp only;omega) (by simp only;omega)
theorem Ex (s t:Int×Int):jU s t=jU t s:=by unfold jU;exact Prod.ext (by simp only;omega) (by simp only;omega)
theorem pC.told {l:List Rw}{n:Nat}{next D:LI}(h:pC l n next)(R:t∈next)(M:∀x∈next,kQ t x)(hn:n<(jT l).length)(T:gt (jT l) n=t)(hm:∀x,x∈next↔x=t\/x∈c)
  (s:∀x,x∈D↔x∈c\/∃j,j<n/\x=jU (gt (jT l) j) t):pC l (n+1) D:=by
 have O:∀x,x∈(jT l).take (n+1)↔x∈(jT l).take n\/x=t:=fun x=>by
  rw[jF (by omega),jF h.le];constructor
  ·rintro⟨j,A,e⟩
   by_cases hq:j=n
   ·right;rw[<- e,hq];exact T
   ·exact .inl ⟨j,by omega,e⟩
  ·rintro (⟨j,A,e⟩|e)
   ·exact⟨j,by omega,e⟩
   ·exact⟨n,by omega,by rw[e];exact T⟩
 have L:∀p∈(jT l).take n,jU p t∈D:=fun p hp=>by
  obtain⟨j,A,e⟩:=(jF h.le).1 hp;exact (s _).2 (.inr ⟨j,A,by rw[e]⟩)
 have H:∀x∈next,x=t\/x∈D:=fun x hx=>by
  rcases (hm x).1 hx with e|e
  ·exact .inl e
  ·exact .inr ((s x).2 (.inl e))
 refine⟨by omega,fun x hx=>?_,fun r hr=>?_,fun p hp q hq=>?_,fun p hp x hx=>?_⟩
 ·rcases (s x).1 hx with e|⟨j,A,e⟩
  ·exact h.inn x ((hm x).2 (.inr e))
  ·rw[e];exact Hk (iY (by omega)) (h.inn t R)
 ·rw[O]
  rcases h.rows r hr with e|e
  ·exact .inl (.inl e)
  ·rcases H _ e with e|e
   ·exact .inl (.inr e)
   ·exact .inr e
 ·rw[O]at hp hq ⊢
  rcases hp with hp|rfl
  ·rcases hq with hq|rfl
   ·rcases h.joins p hp q hq with e|e
    ·exact .inl (.inl e)
    ·rcases H _ e with e|e
     ·exact .inl (.inr e)
     ·exact .inr e
   ·exact .inr (L p hp)
  ·rcases hq with hq|rfl
   ·exact .inr (by rw[Ex];exact L q hq)
   ·exact .inl (.inr (Ez _))
 ·have G:kQ t x:=by
   rcases (s x).1 hx with e|⟨j,A,e⟩
   ·exact M x ((hm x).2 (.inr e))
   ·rw[e];exact BK _ _
  rw[O]at hp
  rcases hp with hp|rfl
  ·exact pL (h.late p hp t R) G
  ·exact G
theorem pC.stop {l:List Rw}{n:Nat}(h:pC l n []):n=(jT l).length:=by
 by_cases hq:n=(jT l).length
 ·exact hq
 ·exfalso
  have hn:n<(jT l).length:=by have:=h.le;omega
  have s:=iY hn;rw[kX,sJ]at s;obtain⟨_,p,hp,q,A,L,H⟩:=s;have G:jU p.1.2 q.1.2=gt (jT l) n:=Prod.ext L H;have h1:=(h.rows p hp).resolve_right (by simp);have h2:=(h.rows q A).resolve_right (by simp);have h3:=(h.joins _ h1 _ h2).resolve_right (by simp);rw[G]at h3;obtain⟨k,D,e⟩:=(jF h.le).1 h3;have h4:=Bl (rX l) D hn;rw[e,Kn]at h4;cases h4
theorem Ey {l:List Rw}{s:Int×Int}(hs:s∈jT l)(A:t∈jT l):(k9 s.1 s.2 t.1 t.2,kA s.1 s.2 t.1 t.2)=jU s t:=by
 rw[kX]at hs A;unfold k9 kA jU;rw[hs.1,A.1];rfl
open Go.Shelf
structure tP (B m:Nat)(A A':fM):Prop where
 os:A'.os=A.os
 tape:A'.tape=A.tape
 output:A'.output=A.output
 size:A.heap.size<=A'.heap.size
 low:∀k,k<B->A'.heap[k]?=A.heap[k]?
 arr:∀q,cD A m=some q->A'.heap[q]?=A.heap[q]?
theorem tP.below {A A':fM}(h:sD A.heap.size A A')(D:B<=A.heap.size)(ha:∀q,cD A m=some q->q<A.heap.size):tP B m A A':=
 ⟨h.os,h.tape,h.output,h.size,fun k s=>h.block k (by omega),fun q e=>h.block q (ha q e)⟩
structure Dj (B m hb:Nat)(ap:Option Nat)(w:fM):Prop where
 mB:m<B
 hB:B<=hb
 wB:B<=w.heap.size
 hw:hb<w.heap.size
 ah:∀q,cD w hb=some q->B<=q/\q<w.heap.size/\q≠hb/\ap≠some q/\cD w m≠some q
 pp:∀q,ap=some q->B<=q/\q<w.heap.size/\q≠hb/\cD w m≠some q
 am:∀q,cD w m=some q->q<w.heap.size/\q≠hb
theorem Dj.below (h:Dj B m hb ap w)(s:sD w.heap.size w w1):Dj B m hb ap w1:=by
 have D:cD w1 hb=cD w hb:=aB (s.block hb h.hw);have A:cD w1 m=cD w m:=aB (s.block m (by have:=h.mB;have:=h.wB;omega));have hs:=s.size;refine⟨h.mB,h.hB,by have:=h.wB;omega,by have:=h.hw;omega,fun q e=>?_,fun q e=>?_,fun q e=>?_⟩
 ·rw[D]at e;rw[A];have:=h.ah q e;exact⟨this.1,by omega,this.2.2⟩
 ·rw[A];have:=h.pp q e;exact⟨this.1,by omega,this.2.2⟩
 ·rw[A]at e;have:=h.am q e;exact⟨by omega,this.2⟩
theorem Dj.cE (h:Dj B m hb ap w)(s:sD w.heap.size w w1):tP B m w w1:=tP.below s h.wB (fun q e=>(h.am q e).1)
theorem Dj.ey (h:Dj B m hb ap w)(hf:HF hb w w1):cD w1 m=cD w m:=by
 have:=h.mB;have:=h.hB;have:=h.wB;exact aB (hf.keep m (by omega) (by omega) (fun e=>by have:=h.ah m e;omega))
theorem Dj.hf (h:Dj B m hb ap w)(hf:HF hb w w1):Dj B m hb ap w1:=by
 have s:=h.ey hf;have hs:=hf.size;refine⟨h.mB,h.hB,by have:=h.wB;omega,by have:=h.hw;omega,fun q e=>?_,fun q e=>?_,fun q e=>?_⟩
 ·rw[s]
  rcases hf.arr with A|⟨D,A,h1,h2⟩
  ·rw[A]at e;have:=h.ah q e;exact⟨this.1,by omega,this.2.2⟩
  ·rw[A]at e;cases e;have:=h.hw;have:=h.wB;exact⟨by omega,h2,by omega,fun e=>by have:=(h.pp q e).2.1;omega,fun e=>by have:=(h.am q e).1;omega⟩
 ·rw[s];have:=h.pp q e;exact⟨this.1,by omega,this.2.2⟩
 ·rw[s]at e;have:=h.am q e;exact⟨by omega,this.2⟩
theorem Dj.da (h:Dj B m hb ap w)(hf:HF hb w w1):tP B m w w1:=by
 have:=h.hB;have:=h.wB;exact⟨hf.os,hf.tape,hf.output,hf.size,fun k A=>hf.keep k (by omega) (by omega) (fun e=>by have:=h.ah k e;omega),fun q e=>hf.keep q (h.am q e).1 (h.am q e).2 (fun s=>(h.ah q s).2.2.2.2 e)⟩
theorem Dj.df (h:Dj B m hb v.ownBlock w)(hf:HF hb w w1)(ho:bW w B v l):bW w1 B v l:=
 fB ho fun q e=>hf.keep q (h.pp q e).2.1 (h.pp q e).2.2.1 (fun s=>(h.ah q s).2.2.2.1 e)
theorem Dj.ei {t:gX}(h:Dj B m hb ap w)(D:j8 m w w1)(G:Bk w hb #[v] t):Bk w1 hb #[v] t/\Dj B m hb ap w1:=by
 have:=h.hB;have:=h.mB;have:=h.wB;have H:=D.bk G (by omega) (fun e=>(h.am hb e).2 rfl);have M:cD w1 hb=cD w hb:=by rw[iO G,iO H]
 have hs:=D.size;refine⟨H,h.mB,h.hB,by omega,by have:=h.hw;omega,fun q e=>?_,fun q e=>?_,fun q e=>?_⟩
 ·rw[M]at e;have h1:=h.ah q e;refine⟨h1.1,by omega,h1.2.2.1,h1.2.2.2.1,fun A=>?_⟩
  rcases D.arr with s|⟨L,s,h2,h3⟩
  ·rw[s]at A;exact h1.2.2.2.2 A
  ·rw[s]at A;cases A;omega
 ·have h1:=h.pp q e;refine⟨h1.1,by omega,h1.2.2.1,fun A=>?_⟩
  rcases D.arr with s|⟨L,s,h2,h3⟩
  ·rw[s]at A;exact h1.2.2.2 A
  ·rw[s]at A;cases A;omega
 ·rcases D.arr with s|⟨L,s,h2,h3⟩
  ·rw[s]at e;have:=h.am q e;exact⟨by omega,this.2⟩
  ·rw[s]at e;cases e;have:=h.hw;exact⟨h3,by omega⟩
theorem DV (h:bW w B v l){q:Nat}(e:v.ownBlock=some q):∃c:Array gD,Bk w q c 32:=by
 rcases mZ h with⟨rfl,_⟩|⟨g,cap,c,rfl,_,hb,_⟩
 ·cases e
 ·have:g=q:=by simpa[tJ]using e
  subst this;exact⟨c,hb⟩
theorem Dj.dq (h:Dj B m hb v.ownBlock w)(s:j8 m w w1)(ho:bW w B v l):bW w1 B v l:=
 fB ho fun q e=>by
  obtain⟨c,hb⟩:=DV ho e;have h1:=h.pp q e;have:=h.mB;exact (s.bk hb (by omega) h1.2.2.2).trans hb.symm
theorem Dj.ec (h:Dj B m hb ap w)(A:j8 m w w1)(hp:Hp w hb l):Hp w1 hb l/\Dj B m hb ap w1:=by
 obtain⟨v,h1,h2,h3⟩:=hp;obtain⟨G,D⟩:=h.ei A h1;refine⟨⟨v,G,fB h2 fun q e=>?_,h3⟩,D⟩;obtain⟨c,s⟩:=DV h2 e;have hq:=h.ah q (by rw[iO h1];exact e);have:=h.mB;exact (A.bk s (by omega) hq.2.2.2.2).trans s.symm
theorem Dj.app {u:gD}(h:Dj B m hb v.ownBlock w)(hg:w.grownBy w1 v.ownBlock)(s:u.ownBlock=v.ownBlock\/(u.ownBlock=some w.heap.size/\w.heap.size<w1.heap.size)):tP B m w w1/\Dj B m hb u.ownBlock w1/\w1.heap[hb]?=w.heap[hb]?/\(∀q,cD w hb=some q->w1.heap[q]?=w.heap[q]?):=by
 have:=h.hB;have:=h.mB;have:=h.wB;have:=h.hw;have hs:=hg.size;have G:w1.heap[hb]?=w.heap[hb]?:=hg.block hb h.hw (fun e=>(h.pp hb e.symm).2.2.1 rfl);have M:w1.heap[m]?=w.heap[m]?:=hg.block m (by omega) (fun e=>by have:=(h.pp m e.symm).1;omega);have O:=aB G;have D:=aB M;have L:∀q,cD w hb=some q->w1.heap[q]?=w.heap[q]?:=fun q e=>hg.block q (h.ah q e).2.1 (fun A=>(h.ah q e).2.2.2.1 A.symm);refine⟨⟨hg.os,hg.tape,hg.output,hg.size,fun k R=>hg.block k (by omega) (fun e=>by have:=(h.pp k e.symm).1;omega),fun q e=>hg.block q (h.am q e).1 (fun A=>(h.pp q A.symm).2.2.2 e)⟩,⟨h.mB,h.hB,by omega,by omega,fun q e=>?_,fun q e=>?_,fun q e=>?_⟩,G,L⟩
 ·rw[O]at e;rw[D];have h1:=h.ah q e;refine⟨h1.1,by omega,h1.2.2.1,fun A=>?_,h1.2.2.2.2⟩
  rcases s with s|⟨s,_⟩
  ·rw[s]at A;exact h1.2.2.2.1 A
  ·rw[s]at A;cases A;omega
 ·rw[D]
  rcases s with s|⟨s,H⟩
  ·rw[s]at e;have:=h.pp q e;exact⟨this.1,by omega,this.2.2⟩
  ·rw[s]at e;cases e;exact⟨by omega,H,by omega,fun e=>by have:=(h.am _ e).1;omega⟩
 ·rw[D]at e;have:=h.am q e;exact⟨by omega,this.2⟩
theorem Hp.app (h:Hp w hb l)(A:w1.heap[hb]?=w.heap[hb]?)(s:∀q,cD w hb=some q->w1.heap[q]?=w.heap[q]?):Hp w1 hb l:=by
 obtain⟨v,h1,h2,h3⟩:=h;refine⟨v,?_,fB h2 fun q e=>s q (by rw[iO h1];exact e),h3⟩;unfold Bk;rw[A];exact h1
def EA {α:Type}(m:Nat)(F:Fence)(n:Nat)(P:iP)(g:Nat)(lb:Array gD)(encs:α->Array gD)(S:List α->Prop)(Pf:List α->α->Prop)(N:Nat)(w:fM):Prop:=
 ∀(l:Nat)(J:List α->fM->Prop)(W:fM),sD w.heap.size w W->(∀s A A',J s A->tP W.heap.size m A A'->J s A') ->
  (∀pre x W1,J pre W1->pre.length<N->Pf pre x->YieldAt F (n-1) P l (encs x) W1 fun e W'=>e=.returned (.bool true)/\J (pre++[x]) W'/\j8 m W1 W') ->
  J [] W ->
  CallsIn F n P g (#[.func (.yield l) #[] #[]]++lb) W fun e W'=>(∃v,e=.returned v)/\∃xs,S xs/\J xs W'
section
variable {F:Fence}{n:Nat}{P:iP}
def lW (B:Nat)(r:gQ)(W:fM):Prop:=W.heap[B]?=some (.deferred (some []))/\W.heap[B+1]?=some (.loop r)
theorem lW.lt {r:gQ}(h:lW B r W):B+1<W.heap.size:=(Array.getElem?_eq_some_iff.1 h.2).1
theorem lW.new (w:fM)(r:gQ):lW w.heap.size r ((w.alloc (.deferred (some []))).alloc (.loop r)):=by
 have e:=fM.alloc_heap_new (w.alloc (.deferred (some []))) (.loop r);rw[fM.size_alloc]at e;exact⟨(sD.heap_alloc _ _ _ (by simp)).trans (fM.alloc_heap_new w _),e⟩
theorem lW.it {r:gQ}(h:lW B r W)(hi:tP (B+1+1) m W W'):lW B r W':=⟨(hi.low _ (by omega)).trans h.1,(hi.low _ (by omega)).trans h.2⟩
theorem lW.kept {r:gQ}(h:lW B r W)(s:KeepsFrom B W W'):lW B r W':=⟨s.same _ _ (oU _) h.1 rfl,s.same _ _ (by omega) h.2 rfl⟩
theorem lW.put {r:gQ}(h:lW B r W)(s:gQ):lW B s (W.putObj (B+1) (.loop s)):=
 ⟨(fM.putObj_heap_other (by omega)).trans h.1,fM.putObj_heap_same h.lt⟩
theorem lW.kp {r:gQ}(h:lW B r W)(s:gQ)(hm:m<B):j8 m W (W.putObj (B+1) (.loop s)):=j8.put W _ _ _ (by omega) h.2 rfl
theorem lW.own {A:Type}{r:gQ}{I:A->fM->Prop}{s:A}(h:lW B r W)(D:gQ)(G:jB B I)(hs:I s W):I s (W.putObj (B+1) (.loop D)):=G.putObj _ hs (by omega) h.2 rfl
theorem zV {α:Type}{g:Operand}{ps:Array Tmp}{assign body:Code}{Q:Exit->Act->fM->Prop}{a:Act}
  (x5:F.round=none) (h1:1<=n) {gf:Nat} {lb:Array gD} (hg:a.eval g=.func (.func gf) #[] lb) (y3:F.fn gf) (eg:∀args w,(callFunc gf args).run P w=.ok (.enter gf args) w)
  {H:α->Array gD} {S:List α->Prop} {Pf:List α->α->Prop} {N:Nat} {w0:fM} (x1:EA m F (n-1) P gf lb H S Pf N w0) (V:m<w.heap.size)
  (h9:sD w0.heap.size w0 w) (x6:∀x,(H x).size=ps.size)
  (I:List α->fM->Prop) (R:jB w.heap.size I) (y2:∀s A A',I s A->tP w.heap.size m A A'->I s A') (h0:I [] w) (Ax:α->Act->fM->Prop) (y4:∀x a',jB w.heap.size (fun (_:Unit) W=>Ax x a' W))
  (O:∀(l:Nat)(pre:List α)(x:α)(W:fM)(K:Act->fM->Prop),I pre W->(∀a' W',KeepsFrom w.heap.size W W'->j8 m W W'->I pre W'->Ax x a' W'->K a' W') ->
   assign.wpIn (F.inRound l) (n-1-1) P (Exit.then K (fun _ _ _=>False)) { tmps:=(ps.zip (H x)).foldl (fun t (p,v)=>t.setIfInBounds p v) a.tmps,defers:=[] } W)
  (U:∀(l:Nat)(pre:List α)(x:α)(a':Act)(W:fM),w.heap.size<=l->(∃r,W.heap[l]?=some (.loop r))->I pre W->Ax x a' W->pre.length<N->Pf pre x->body.wpIn (F.inRound l) (n-1-1) P (ownPostG w.heap.size (j8 m) I (fun _ _ _=>False) (pre++[x]) W) a' W)
  (T:∀(D:Nat)(xs:List α)(W:fM),w.heap.size<=D->S xs->I xs W->W.heap[D]?=some (.deferred (some []))->Q .normal { a with defers:={ target:= .collected D,args:=#[] }::a.defers } W):
  (Code.rangeFunc g ps assign body).wpIn F n P Q a w:=by
 apply wpIn_rangeFunc
 intro fn x9;rw[x5]
 let G:gQ:={ state:= .ready,pending:=none,fn,tmps:=a.tmps,params:=ps,assign,body,defers:=w.heap.size }
 have y1:=lW.new w G;have x8:=R.alloc (.loop G) (R.alloc (.deferred (some [])) h0);have y0:=h9.trans ((((tL _ w).alloc (oU _) (.deferred (some []))).alloc (by simp) (.loop G)).mono h9.size);have x4:((w.alloc (.deferred (some []))).alloc (.loop G)).heap.size=w.heap.size+1+1:=by simp
 refine⟨w.heap.size+1,_,_,{ target:= .fn (.func gf) lb,args:=#[.func (.yield (w.heap.size+1)) #[] #[]] },(w.alloc (.deferred (some []))).alloc (.loop G),gf,#[.func (.yield (w.heap.size+1)) #[] #[]]++lb,(w.alloc (.deferred (some []))).alloc (.loop G),run_enterLoop_outer _ _ _ _ _,?c1,?c2,?c3,fun _=>h1,?c4⟩
 case c1=>simp only[resolve,hg];simp[go_sem];rfl
 case c2=>intro f' Z;simp[Target.leads]at Z;subst Z;exact y3
 case c3=>simp[invoke,go_sem,eg]
 refine (x1 (w.heap.size+1) (fun pre W=>I pre W/\lW w.heap.size G W) _ y0 (fun s A A' hs hi=>?_) (fun pre x W hs x2 x7=>?_) ⟨x8,y1⟩).mono ?_
 ·rw[x4]at hi;exact⟨y2 s A A' hs.1 ⟨hi.os,hi.tape,hi.output,hi.size,fun k hk=>hi.low k (by omega),hi.arr⟩,hs.2.it hi⟩
 ·refine⟨fn,_,assign,body,run_yield (P:=P) (args:=H x) hs.2.2 (x6 x),roundIn_of_wpIn x9 (O _ pre x W _ hs.1 fun a' W2 k1 k2 hi hx=>?_)⟩;have L:=hs.2.kept k1;refine⟨_,run_beginRound L.2 rfl,?_⟩;have x0:=L.put { G with state:= .busy };refine wpIn_mono (U _ pre x a' _ (by omega) ⟨_,x0.2⟩ (L.own _ R hi) (L.own (s:=()) _ (y4 x a') hx) x2 x7) fun e a3 W3 hp=>?_
  match e,hp with
  | .normal,hp=>
   have M:=x0.kept hp.1;exact⟨_,_,run_endRound (P:=P) none M.2,rfl,⟨M.own _ R hp.2.2,M.put _⟩,k2.trans (((L.kp _ V).trans hp.2.1).trans (M.kp _ V))⟩
  | .ret,hp=>exact hp.2.elim
  | .exit _,hp=>exact hp.2.elim
  | .goto _,hp=>exact hp.2.elim
 ·rintro e W2 ⟨⟨v,rfl⟩,xs,hS,hi,hL⟩;exact⟨none,_,run_endLoop (P:=P) hL.2 (by simp[G]),T _ xs _ (oU _) hS (hL.own _ R hi) (hL.put _).1⟩
end
end Go.Proofs.YtbdpcngcbnoioaaGreatDoor
