import Derived.Test.YtbdpcngcbnoioaaGreatDoorGj5
import Derived.Deep.RegionLaw
set_option maxRecDepth 100000
set_option maxHeartbeats 8000000
namespace Go.Proofs.YtbdpcngcbnoioaaGreatDoor
open Go renaming World->fD,IntKind->fH,Value->fV,Calls->gY,Loop->gZ,TypeId->iC,Addr->jU,Program->kR,OwnFrom->kX
open Go.IntKind renaming wrap_i64->lI,i64->lY
open _root_.List renaming getD_eq_getElem?_getD->mF,length_take->mJ,getElem?_eq_getElem->nU
open Go.Proofs.Tryz renaming prog->oJ
open _root_.Nat renaming le_refl->oO,zero_le->qA,lt_of_lt_of_le->rN,le_trans->sE
open Go.RowKit renaming Below->sG
open Go.Value renaming ownBlock->sH,int->sI
open Go.RowKit.Below renaming refl->wH,heap_setCell->wR
open Go.Result renaming andThen->AT
open _root_.Int renaming tdiv_eq_ediv_of_nonneg->B3
variable {B cap g hb i i0 j k m n:Nat}{W W' w w' w1:fD}{X Y:Int}{a b t x:Int×Int}{ap:Option Nat}{c l:LI}{v:fV}
def gt (l:LI)(i:Nat):Int×Int:=l.getD i (0,0)
def dM (l:LI)(i j:Nat):LI:=(l.set i (gt l j)).set j (gt l i)
def jW (a b:Int×Int):Prop:=cO b a=false
theorem uK :jW a b↔a.1<b.1\/(a.1=b.1/\a.2<=b.2):=by
 unfold jW cO;simp only[decide_eq_false_iff_not];omega
theorem DP :cO a b=true↔a.1<b.1\/(a.1=b.1/\a.2<b.2):=by
 unfold cO;simp only[decide_eq_true_eq]
theorem vM (a:Int×Int):jW a a:=by rw[uK];omega
theorem n8 {c:Int×Int}(h:jW a b)(k:jW b c):jW a c:=by rw[uK]at *;omega
theorem xU (h:cO a b=true):jW a b:=by rw[uK];rw[DP]at h;omega
theorem iH (h:k<l.length):gt l k∈l:=by
 unfold gt;rw[mF,nU h];exact List.getElem_mem h
theorem oH (h:x∈l):∃k,k<l.length/\gt l k=x:=by
 obtain⟨k,s,e⟩:=List.getElem_of_mem h;exact⟨k,s,by unfold gt;rw[mF,nU s,e];rfl⟩
theorem lE (h:k<n):gt (l.take n) k=gt l k:=by
 unfold gt;rw[mF,mF,List.getElem?_take,if_pos h]
theorem Be (h:k<l.length):gt (l++[x]) k=gt l k:=by
 unfold gt;rw[mF,mF,List.getElem?_append_left h]
theorem jA (l:LI)(i j:Nat):(dM l i j).length=l.length:=by simp[dM]
theorem mI (hi:i<l.length)(s:j<l.length)(k:Nat):gt (dM l i j) k=if k=j then gt l i else if k=i then gt l j else gt l k:=by
 unfold dM;generalize hx:gt l i=x;generalize A:gt l j=y;unfold gt;simp only[mF,List.getElem?_set,List.length_set]
 by_cases h1:k=j
 ·subst h1;simp[s]
 ·simp only[if_neg h1,if_neg (Ne.symm h1)]
  by_cases h2:k=i
  ·subst h2;simp[hi]
  ·simp only[if_neg h2,if_neg (Ne.symm h2)]
theorem A8 (hi:i<l.length)(s:j<l.length)(x:Int×Int):x∈dM l i j↔x∈l:=by
 constructor
 ·intro h;obtain⟨k,A,e⟩:=oH h;rw[jA]at A;rw[mI hi s]at e
  split at e
  ·rw[<- e];exact iH hi
  ·split at e
   ·rw[<- e];exact iH s
   ·rw[<- e];exact iH A
 ·intro h;obtain⟨k,A,e⟩:=oH h;have hl:=jA l i j;have g:∀q,q<l.length->gt (dM l i j) q∈dM l i j:=fun q hq=>iH (by omega)
  by_cases h1:k=i
  ·have h:=g j s;have q:gt (dM l i j) j=x:=by rw[mI hi s,if_pos rfl,<-h1,e]
   rw[q]at h;exact h
  ·by_cases h2:k=j
   ·have h:=g i hi;have q:gt (dM l i j) i=x:=by
     rw[mI hi s]
     by_cases h3:i=j
     ·rw[if_pos h3,h3,<-h2,e]
     ·rw[if_neg h3,if_pos rfl,<-h2,e]
    rw[q]at h;exact h
   ·have h:=g k A;have q:gt (dM l i j) k=x:=by rw[mI hi s,if_neg h2,if_neg h1,e]
    rw[q]at h;exact h
def cJ (l:LI)(n i0:Nat):Prop:=∀m,0<m->m<n->i0<=(m-1) / 2->jW (gt l ((m-1) / 2)) (gt l m)
structure qG (l c:LI)(i0 n i:Nat):Prop where
 len:c.length=l.length
 mem:∀x,x∈c↔x∈l
 far:∀k,n<=k->gt c k=gt l k
 d1:∀m,0<m->m<n->i0<=(m-1) / 2->(m-1) / 2≠i->jW (gt c ((m-1) / 2)) (gt c m)
 d2:i0<i->∀m,0<m->m<n->(m-1) / 2=i->jW (gt c ((i-1) / 2)) (gt c m)
 ge:i0<=i
 pge:i0<i->i0<=(i-1) / 2
theorem qG.start (h:cJ l n (i0+1)):qG l l i0 n i0 where
 len:=rfl
 mem _:=Iff.rfl
 far _ _:=rfl
 d1 m h0 hm hi hne:=h m h0 hm (by omega)
 d2 h:=by omega
 ge:=oO _
 pge h:=by omega
theorem qG.cb (h:qG l c i0 n i)(hn:n<=2*i+1):cJ c n i0:=fun m h0 hm hi=>h.d1 m h0 hm hi (by omega)
def rM (c:LI)(n i j:Nat):Prop:=2*i+1<n/\j<n/\(j=2*i+1\/j=2*i+2)/\∀m,0<m->m<n->(m-1) / 2=i->jW (gt c j) (gt c m)
theorem Fe (h1:2*i+1<n)(h:2*i+2<n->jW (gt c (2*i+1)) (gt c (2*i+2))):rM c n i (2*i+1):=
 ⟨h1,h1,.inl rfl,fun m h0 hm e=>by
  obtain rfl|rfl:m=2*i+1\/m=2*i+2:=by omega
  ·exact vM _
  ·exact h hm⟩
theorem Ly (h2:2*i+2<n)(h:cO (gt c (2*i+2)) (gt c (2*i+1))=true):rM c n i (2*i+2):=
 ⟨by omega,h2,.inr rfl,fun m h0 hm e=>by
  obtain rfl|rfl:m=2*i+1\/m=2*i+2:=by omega
  ·exact xU h
  ·exact vM _⟩
theorem qG.ca (h:qG l c i0 n i)(s:rM c n i j)(hl:cO (gt c j) (gt c i)=false):cJ c n i0:=fun m h0 hm hi=>by
 by_cases e:(m-1) / 2=i
 ·rw[e];exact n8 hl (s.2.2.2 m h0 hm e)
 ·exact h.d1 m h0 hm hi e
theorem qG.step (h:qG l c i0 n i)(hn:n<=l.length)(L:rM c n i j)(hl:cO (gt c j) (gt c i)=true):qG l (dM c i j) i0 n j:=by
 obtain⟨h1,h2,h3,h4⟩:=L;have D:=h.len;have A:i<c.length:=by omega
 have s:j<c.length:=by omega
 have N:=h.ge;have e:=mI A s;have G:i≠j:=by omega
 refine⟨by rw[jA];exact D,fun x=>by rw[A8 A s];exact h.mem x,fun k H=>by rw[e,if_neg (by omega),if_neg (by omega)];exact h.far k H,fun m h0 hm hi hne=>?_,fun M m h0 hm hp=>?_,by omega,fun _=>by omega⟩
 ·rw[e,e]
  by_cases c1:(m-1) / 2=i
  ·rw[if_neg (by omega),if_pos c1]
   by_cases c2:m=j
   ·rw[if_pos c2];exact xU hl
   ·rw[if_neg c2,if_neg (by omega)];exact h4 m h0 hm c1
  ·rw[if_neg (by omega),if_neg (by omega)]
   by_cases c2:m=j
   ·omega
   ·rw[if_neg c2]
    by_cases c3:m=i
    ·rw[if_pos c3];have:=h.d2 (by omega) j (by omega) h2 (by omega);rw[c3];exact this
    ·rw[if_neg c3];exact h.d1 m h0 hm hi c1
 ·rw[e,e];have c1:(j-1) / 2=i:=by omega
  rw[c1,if_neg G,if_pos rfl,if_neg (by omega),if_neg (by omega)];have:=h.d1 m h0 hm (by omega) (by omega);rw[hp]at this;exact this
structure qH (l c:LI)(j:Nat):Prop where
 len:c.length=l.length
 mem:∀x,x∈c↔x∈l
 lt:j<l.length
 u1:∀m,0<m->m<l.length->m≠j->jW (gt c ((m-1) / 2)) (gt c m)
 u2:0<j->∀m,0<m->m<l.length->(m-1) / 2=j->jW (gt c ((j-1) / 2)) (gt c m)
theorem qH.start (h:cJ l l.length 0):qH (l++[x]) (l++[x]) l.length where
 len:=rfl
 mem _:=Iff.rfl
 lt:=by simp
 u1 m h0 hm hne:=by
  have s:m<l.length:=by simp at hm;omega
  rw[Be (by omega),Be s];exact h m h0 s (by omega)
 u2 h0 m h1 hm hp:=by simp at hm;omega
theorem qH.di (h:qH l c 0):cJ c l.length 0:=fun m h0 hm _=>h.u1 m h0 hm (by omega)
theorem qH.cb (h:qH l c j)(hl:cO (gt c j) (gt c ((j-1) / 2))=false):cJ c l.length 0:=fun m h0 hm _=>by
 by_cases e:m=j
 ·rw[e];exact hl
 ·exact h.u1 m h0 hm e
theorem qH.step (h:qH l c j)(H:0<j)(hl:cO (gt c j) (gt c ((j-1) / 2))=true):qH l (dM c ((j-1) / 2) j) ((j-1) / 2):=by
 have G:=h.len;have M:=h.lt;have D:(j-1) / 2<c.length:=by omega
 have A:j<c.length:=by omega
 have e:=mI D A;have L:=xU hl;refine⟨by rw[jA];exact G,fun x=>by rw[A8 D A];exact h.mem x,by omega,fun m h0 hm hne=>?_,fun h0 m h1 hm hp=>?_⟩
 ·rw[e,e]
  by_cases c1:m=j
  ·rw[c1,if_neg (by omega),if_pos rfl,if_pos rfl];exact L
  ·rw[if_neg c1,if_neg hne]
   by_cases c2:(m-1) / 2=j
   ·rw[if_pos c2];exact h.u2 H m h0 hm c2
   ·rw[if_neg c2]
    by_cases c3:(m-1) / 2=(j-1) / 2
    ·rw[if_pos c3];have:=h.u1 m h0 hm c1;rw[c3]at this;exact n8 L this
    ·rw[if_neg c3];exact h.u1 m h0 hm c1
 ·rw[e,e];have s:jW (gt c (((j-1) / 2-1) / 2)) (gt c ((j-1) / 2)):=h.u1 ((j-1) / 2) h0 (by omega) (by omega);rw[if_neg (by omega),if_neg (by omega)]
  by_cases c1:m=j
  ·rw[if_pos c1];exact s
  ·rw[if_neg c1,if_neg (by omega)];have:=h.u1 m h1 hm c1;rw[hp]at this;exact n8 s this
theorem Hb (h:cJ l l.length 0)(s:k<l.length):jW (gt l 0) (gt l k):=by
 induction k using Nat.strongRecOn with
 | _ k ih=>
  by_cases h0:k=0
  ·subst h0;exact vM _
  ·exact n8 (ih ((k-1) / 2) (by omega) (by omega)) (h k (by omega) s (by omega))
theorem Jz (h:cJ l l.length 0)(hx:x∈l):jW (gt l 0) x:=by
 obtain⟨k,s,rfl⟩:=oH hx;exact Hb h s
theorem M6 (h:cJ l l.length 0)(h0:0<l.length):cJ (dM l 0 (l.length-1)) (l.length-1) (0+1):=fun m s hm hi=>by
 have e:=mI (l:=l) (i:=0) (j:=l.length-1) h0 (by omega);rw[e,e,if_neg (by omega),if_neg (by omega),if_neg (by omega),if_neg (by omega)];exact h m s (by omega) (by omega)
theorem Jl (h:cJ c n 0)(hn:n<=c.length):cJ (c.take n) (c.take n).length 0:=fun m h0 hm _=>by
 have hl:(c.take n).length=n:=by rw[mJ];omega
 rw[hl]at hm;rw[lE (by omega),lE hm];exact h m h0 hm (by omega)
theorem MG (h0:0<l.length)(h:qG (dM l 0 (l.length-1)) c 0 (l.length-1) c.length\/(c.length=l.length/\(∀x,x∈c↔x∈dM l 0 (l.length-1))/\∀k,l.length-1<=k->gt c k=gt (dM l 0 (l.length-1)) k))(x:Int×Int):x∈l↔x=gt l 0\/x∈c.take (l.length-1):=by
 have D:c.length=l.length/\(∀x,x∈c↔x∈dM l 0 (l.length-1))/\∀k,l.length-1<=k->gt c k=gt (dM l 0 (l.length-1)) k:=by
  rcases h with h|h
  ·exact⟨by rw[h.len,jA],h.mem,h.far⟩
  ·exact h
 obtain⟨h1,h2,h3⟩:=D;have hm:x∈c↔x∈l:=by rw[h2,A8 h0 (by omega)]
 have s:gt c (l.length-1)=gt l 0:=by rw[h3 _ (oO _),mI h0 (by omega),if_pos rfl]
 rw[<- hm];constructor
 ·intro hx;obtain⟨k,G,e⟩:=oH hx
  by_cases A:k=l.length-1
  ·left;rw[<- e,A,s]
  ·right
   rw[<- e,<-lE (l:=c) (n:=l.length-1) (by omega)];exact iH (by rw[mJ];omega)
 ·rintro (rfl|hx)
  ·rw[<- s];exact iH (by omega)
  ·exact List.mem_of_mem_take hx
open Go.RowKit
theorem Ng (a:jU)(w:fD):(method 474 305 (.pointer (some a)) "Len").run oJ w=(do let v<-loadVar 303 a;pure (334,v)).run oJ w:=by kernel_rfl
theorem Mj (a:jU)(w:fD):(method 474 305 (.pointer (some a)) "Less").run oJ w=(do let v<-loadVar 303 a;pure (335,v)).run oJ w:=by kernel_rfl
theorem MV (a:jU)(w:fD):(method 474 305 (.pointer (some a)) "Swap").run oJ w=(do let v<-loadVar 303 a;pure (336,v)).run oJ w:=by kernel_rfl
theorem Nw (a:jU)(w:fD):(method 474 305 (.pointer (some a)) "Pop").run oJ w=.ok (337,.pointer (some a)) w:=by kernel_rfl
theorem Nk (a:jU)(w:fD):(method 474 305 (.pointer (some a)) "Push").run oJ w=.ok (338,.pointer (some a)) w:=by kernel_rfl
theorem wJ {b:Nat}(h:Bk w b #[v] 303):(loadVar 303 ⟨b,0,none⟩).run oJ w=.ok v w:=by
 have s:=h.cell (i:=0) (v:=v) rfl;go_simp
theorem Gw {b:Nat}(h:Bk w b #[v] 303):(method 474 305 (.pointer (some ⟨b,0,none⟩)) "Len").run oJ w=.ok (334,v) w:=by
 rw[Ng];simp[wJ h,AT]
theorem pV {b:Nat}(h:Bk w b #[v] 303):(method 474 305 (.pointer (some ⟨b,0,none⟩)) "Less").run oJ w=.ok (335,v) w:=by
 rw[Mj];simp[wJ h,AT]
theorem xI {b:Nat}(h:Bk w b #[v] 303):(method 474 305 (.pointer (some ⟨b,0,none⟩)) "Swap").run oJ w=.ok (336,v) w:=by
 rw[MV];simp[wJ h,AT]
attribute [local go_sem ↓] Go.wp_at_zero Go.wp_at_succ
theorem LW (l:LI)(i:Nat):gt l i=(tA l i,tB l i):=rfl
theorem AD (a:Option jU)(n cap:Nat)(w:fD):gY oJ 334 #[.slice a n cap] w fun e w'=>e=.returned (.int .i64 n)/\w'=w:=by
 go_enter Tryz.func334,Tryz.ntmps334;go_wp2_with fail;go_ret;exact⟨rfl,rfl⟩
theorem Mi (a b c d:Int):decide (nO (fM a c) (fM b d)<0)=cO (a,b) (c,d):=by
 unfold nO fM cO;rw[Bool.eq_iff_iff,decide_eq_true_eq,decide_eq_true_eq];simp only;constructor
 ·intro h;revert h;split<;>(try split)<;>(try split)<;>(try split)<;>intro h<;>omega
 ·intro h;split<;>(try split)<;>(try split)<;>(try split)<;>omega
theorem wK {c:Array fV}(hb:Bk w g c 32)(hf:dX c l l.length)(hi:i<l.length)(G:j<l.length){r:Bool}(hr:cO (gt l i) (gt l j)=r):
  gY oJ 335 #[.slice (some ⟨g,0,none⟩) l.length cap,.int .i64 i,.int .i64 j] w fun e w'=>e=.returned (.bool r)/\sG w.heap.size w w':=by
 have Z:=hb.cell (hf i hi).1;have V:=hb.cell (hf i hi).2;have U:=hb.cell (hf j G).1;have T:=hb.cell (hf j G).2;have HR:Hid (decide (nO (fM (tA l i) (tA l j)) (fM (tB l i) (tB l j))<0)=r):=by
  show _=_
  rw[<- hr];exact Mi _ _ _ _
 have HB:Hid (Bk w g c 32/\dX c l l.length):=⟨hb,hf⟩;have R:Hid (∀W,sG w.heap.size w W->(W.cell? ⟨g,i*2,none⟩=some (.int .i64 (tA l i))/\W.cell? ⟨g,i*2+1,none⟩=some (.int .i64 (tB l i)))/\W.cell? ⟨g,j*2,none⟩=some (.int .i64 (tA l j))/\W.cell? ⟨g,j*2+1,none⟩=some (.int .i64 (tB l j))):=
  fun W A=>⟨⟨cB A Z,cB A V⟩,cB A U,cB A T⟩
 have D:sG w.heap.size w w.drew:=(wH _ _).drew;have HG:Hid (∀wc,Gr w.drew wc->sG w.heap.size w wc):=fun wc h=>by obtain⟨h1,_⟩:=h;exact aH D h1
 have ii:(i:Int)<(l.length:Int):=by omega
 have ij:(j:Int)<(l.length:Int):=by omega
 clear hb hf hr;generalize tA l i=O at*;generalize tB l i=N at*;generalize tA l j=M at*;generalize tB l j=L at*;generalize l.length=n at*;go_enter Tryz.func335,Tryz.ntmps335;go_wp2_with fail
 go_region_held3 (fun W=>(W.cell? ⟨g,i*2,none⟩=some (.int .i64 O)/\W.cell? ⟨g,i*2+1,none⟩=some (.int .i64 N))/\W.cell? ⟨g,j*2,none⟩=some (.int .i64 M)/\W.cell? ⟨g,j*2+1,none⟩=some (.int .i64 L))
  (first|exact R.out _ s|exact R.out _ D)
  (first|(go_at_call 160;with_reducible refine (xZ O N M L _).mono ?_;rintro e wc ⟨rfl,H⟩;have s:=HG.out _ H))
 all_goals
  go_wp2_with fail;go_ret;exact⟨rB HR.out,s⟩
theorem dX.swap {c:Array fV}(h:dX c l l.length)(hi:i<l.length)(s:j<l.length)(hs:l.length*2<=c.size):
  dX ((((c.setIfInBounds (i*2) (.int .i64 (tA l j))).setIfInBounds (i*2+1) (.int .i64 (tB l j))).setIfInBounds (j*2) (.int .i64 (tA l i))).setIfInBounds (j*2+1) (.int .i64 (tB l i))) (dM l i j) l.length:=by
 have h1:=dX.set h hi rfl hs (tA l j) (tB l j);exact dX.set (n:=l.length) h1 s (by simp) (by simpa using hs) (tA l i) (tB l i)
theorem Cj {c:Array fV}(hb:Bk w g c 32)(hf:dX c l l.length)(hs:l.length*2<=c.size)(hi:i<l.length)(G:j<l.length):
  gY oJ 336 #[.slice (some ⟨g,0,none⟩) l.length cap,.int .i64 i,.int .i64 j] w fun e w'=>e=.returned (.tuple #[])/\∃s:Array fV,Bk w' g s 32/\dX s (dM l i j) l.length/\s.size=c.size/\Bx g w w':=by
 have R:=hb.cell (hf i hi).1;have O:=hb.cell (hf i hi).2;have N:=hb.cell (hf j G).1;have M:=hb.cell (hf j G).2;have U:(i:Int)<(l.length:Int):=by omega
 have T:(j:Int)<(l.length:Int):=by omega
 have HF:Hid (∃s:Array fV,Bk ((((w.drew.setCell ⟨g,i*2,none⟩ (.int .i64 (tA l j))).setCell ⟨g,i*2+1,none⟩ (.int .i64 (tB l j))).setCell ⟨g,j*2,none⟩ (.int .i64 (tA l i))).setCell ⟨g,j*2+1,none⟩ (.int .i64 (tB l i))) g s 32/\dX s (dM l i j) l.length/\s.size=c.size/\Bx g w ((((w.drew.setCell ⟨g,i*2,none⟩ (.int .i64 (tA l j))).setCell ⟨g,i*2+1,none⟩ (.int .i64 (tB l j))).setCell ⟨g,j*2,none⟩ (.int .i64 (tA l i))).setCell ⟨g,j*2+1,none⟩ (.int .i64 (tB l i)))):=
  ⟨_,(((hb.drew.set (i*2) _).set (i*2+1) _).set (j*2) _).set (j*2+1) _,dX.swap hf hi G hs,by simp,((((Bx.refl g w).drew.ae rfl _).ae rfl _).ae rfl _).ae rfl _⟩
 have f0:=hb.free (i*2);have f1:=hb.free (i*2+1);have Z:=hb.free (j*2);have V:=hb.free (j*2+1);obtain⟨L,D⟩:∃x,(c.setIfInBounds (i*2) (.int .i64 (tA l j)))[j*2]?=some x:=⟨_,Array.getElem?_eq_getElem (by simp;omega)⟩;obtain⟨H,A⟩:∃x,((c.setIfInBounds (i*2) (.int .i64 (tA l j))).setIfInBounds (i*2+1) (.int .i64 (tB l j)))[j*2+1]?=some x:=⟨_,Array.getElem?_eq_getElem (by simp;omega)⟩;have e1:=(hb.set (i*2) (.int .i64 (tA l j))).cell D;have e2:=((hb.set (i*2) (.int .i64 (tA l j))).set (i*2+1) (.int .i64 (tB l j))).cell A;clear hb hf D A;generalize tA l i=a1 at*;generalize tB l i=a2 at*;generalize tA l j=b1 at*;generalize tB l j=b2 at*;generalize hn:l.length=n at*;go_enter Tryz.func336,Tryz.ntmps336;go_wp2_with fail
 go_region
 go_wp2_with fail
 go_end0
 exact⟨rfl,HF.out⟩
def fJ (w:fD)(hb g cap:Nat)(l:LI):Prop:=
 Bk w hb #[.slice (some ⟨g,0,none⟩) l.length cap] 303/\(∃c:Array fV,Bk w g c 32/\dX c l l.length/\c.size=cap*2)/\l.length<=cap/\cap<=maxLen/\hb≠g
theorem fJ.keep (h:fJ w hb g cap l)(hx:sG w.heap.size w w1):fJ w1 hb g cap l:=by
 obtain⟨h1,⟨c,h2,h3,h4⟩,h5⟩:=h;exact⟨h1.keep hx,⟨c,h2.keep hx,h3,h4⟩,h5⟩
abbrev C6 (hb:Nat):fV:= .iface 305 (.pointer (some ⟨hb,0,none⟩))
theorem fJ.swap {s:Array fV}(h:fJ w hb g cap l)(A:Bk w1 g s 32)(hf:dX s (dM l i j) l.length)(hs:s.size=cap*2)(hx:Bx g w w1):fJ w1 hb g cap (dM l i j):=by
 obtain⟨h1,_,h3,h4,h5⟩:=h;refine⟨?_,⟨s,A,by rw[jA];exact hf,hs⟩,by rw[jA];exact h3,h4,h5⟩;unfold Bk;rw[hx.block hb h1.lt h5,jA];exact h1
theorem LG (h:0<j):((j:Int)-1).tdiv 2=(((j-1) / 2:Nat):Int):=by
 rw[B3 (by omega)];omega
theorem MS {j0:Nat}(h:fJ w hb g cap l)(hu:qH l l j0)(hl:l.length<=1000000):
  gY oJ 279 #[C6 hb,.int .i64 j0] w fun e w'=>e=.returned (.tuple #[])/\∃c:LI,fJ w' hb g cap c/\c.length=l.length/\(∀x,x∈c↔x∈l)/\cJ c l.length 0/\Bx g w w':=by
 go_enter Tryz.func279,Tryz.ntmps279;go_wp2_with fail
 go_loopw [1] (fun i wr=>∃(j:Nat)(c:LI),i=.int .i64 j/\fJ wr hb g cap c/\qH l c j/\Bx g w wr) (fun i _=>(intOf i).toNat)
 case atStart=>exact⟨j0,l,rfl,h,hu,Bx.refl _ _⟩
 case round=>
  clear h hu;obtain⟨j,c,rfl,hM,L,hx⟩:=hrel;have z3:=L.lt;have D:=L.len
  by_cases hj:j=0
  ·subst hj;have i1:lY.wrap (((0:Nat):Int)-1) = -1:=by decide
   have i2:lY.wrap ((-1:Int).tdiv 2)=0:=by decide
   have x3:=L.di;go_wp2_with fail
   go_end0
   exact⟨rfl,c,hM,D,L.mem,x3,hx⟩
  ·have i1:lY.wrap ((j:Int)-1)=(j:Int)-1:=by rw[lI];omega
   have i2:lY.wrap (((j:Int)-1).tdiv 2)=(((j-1) / 2:Nat):Int):=by rw[LG (by omega),lI];omega
   have i3:((((j-1) / 2:Nat):Int)==(j:Int))=false:=beq_eq_false_iff_ne.2 (by omega);have N:(j-1) / 2<c.length:=by omega
   have M:j<c.length:=by omega
   have x2:0<j:=by omega
   have HM:=(show Hid (fJ wr hb g cap c) from hM);obtain⟨h9,⟨cc,x0,G,Z⟩,z1,z5,hne⟩:=hM;have y0:=pV h9;have HU:=(show Hid (qH l c j) from L);have H:=(show Hid (Bk wr g cc 32/\dX cc c c.length/\cc.size=cap*2) from⟨x0,G,Z⟩);have x8:=(show Hid (c.length=l.length) from D);clear L x0 G Z h9 D;generalize hI:(j-1) / 2=i at*;have T:=(show Hid ((j-1) / 2=i) from hI);clear hI;cases hr:cO (gt c j) (gt c i)
   ·go_wp2_with fail;refine (wK H.out.1 H.out.2.1 M N hr).mono ?_;rintro e w1 ⟨rfl,s⟩;go_wp2_with fail
    go_end0
    exact⟨rfl,c,HM.out.keep s,x8.out,HU.out.mem,HU.out.cb (by rw[T.out];exact hr),hx.trans (Bx.aA s)⟩
   ·go_wp2_with fail;refine (wK H.out.1 H.out.2.1 M N hr).mono ?_;rintro e w1 ⟨rfl,s⟩;have y5:=(show Hid (fJ w1 hb g cap c) from HM.out.keep s);obtain⟨O,⟨z6,R,A,z0⟩,-,-,-⟩:=HM.out.keep s;have x9:=xI O;clear y0;go_wp2_with fail;refine (Cj R A (by omega) N M).mono ?_;rintro e w2 ⟨rfl,c2,x1,V,z2,U⟩;have y4:=(show Hid (fJ w2 hb g cap (dM c i j)) from y5.out.swap x1 V (by omega) U);have y3:=(show Hid (qH l (dM c i j) i) from by have:=HU.out.step x2 (by rw[T.out];exact hr);rw[T.out]at this;exact this);have z4:i<j:=by have:=T.out;omega
    clear x9 O R A x1 V;go_wp2_with fail;go_roundw
    case rel=>exact⟨i,dM c i j,rfl,y4.out,y3.out,(hx.trans (Bx.aA s)).trans U⟩
    case measure=>simp[intOf];omega
theorem lU {a b:Int}{c:Array fV}(hb:Bk w g c 32)(hf:dX c l l.length)(ha:a=(i:Int))(s:b=(j:Int))(hi:i<l.length)(A:j<l.length){r:Bool}(hr:cO (gt l i) (gt l j)=r):
  gY oJ 335 #[.slice (some ⟨g,0,none⟩) l.length cap,.int .i64 a,.int .i64 b] w fun e w'=>e=.returned (.bool r)/\sG w.heap.size w w':=by
 subst ha s;exact wK hb hf hi A hr
theorem vR {a b:Int}{c:Array fV}(hb:Bk w g c 32)(hf:dX c l l.length)(ha:a=(i:Int))(A:b=(j:Int))(hs:l.length*2<=c.size)(hi:i<l.length)(D:j<l.length):
  gY oJ 336 #[.slice (some ⟨g,0,none⟩) l.length cap,.int .i64 a,.int .i64 b] w fun e w'=>e=.returned (.tuple #[])/\∃s:Array fV,Bk w' g s 32/\dX s (dM l i j) l.length/\s.size=c.size/\Bx g w w':=by
 subst ha A;exact Cj hb hf hs hi D
theorem JZ (h:fJ w hb g cap l)(y1:cJ l n (i0+1))(hn:n<=l.length)(z3:i0<=n)(hl:l.length<=1000000):
  gY oJ 278 #[C6 hb,.int .i64 i0,.int .i64 n] w fun e w'=>(∃v,e=.returned v)/\∃c:LI,fJ w' hb g cap c/\c.length=l.length/\(∀x,x∈c↔x∈l)/\(∀k,n<=k->gt c k=gt l k)/\cJ c n i0/\Bx g w w':=by
 go_enter Tryz.func278,Tryz.ntmps278;go_wp2_with fail
 go_loopw [7] (fun i wr=>∃(j:Nat)(c:LI),i=.int .i64 j/\j<=n/\fJ wr hb g cap c/\qG l c i0 n j/\Bx g w wr) (fun i _=>n-(intOf i).toNat)
 case atStart=>exact⟨i0,l,rfl,z3,h,qG.start y1,Bx.refl _ _⟩
 case round=>
  clear h y1;obtain⟨i,c,rfl,z8,hM,hD,hx⟩:=hrel;have x0:=hD.len;have i1:lY.wrap (2*(i:Int))=2*(i:Int):=by rw[lI];omega
  have i2:lY.wrap (2*(i:Int)+1)=2*(i:Int)+1:=by rw[lI];omega
  by_cases h1:n<=2*i+1
  ·have g1:(n:Int)<=2*(i:Int)+1:=by omega
   have y2:=hD.cb h1;have N:=(show Hid (∃c:LI,fJ wr hb g cap c/\c.length=l.length/\(∀x,x∈c↔x∈l)/\(∀k,n<=k->gt c k=gt l k)/\cJ c n i0/\Bx g w wr) from⟨c,hM,x0,hD.mem,hD.far,y2,hx⟩);clear hM hD y2 x0;go_wp2_with fail;go_ret;exact⟨⟨_,rfl⟩,N.out⟩
  ·have g1:¬((n:Int)<=2*(i:Int)+1):=by omega
   have g2:¬(2*(i:Int)+1<0):=by omega
   have i3:lY.wrap (2*(i:Int)+1+1)=2*(i:Int)+1+1:=by rw[lI];omega
   have k1:Hid (2*(i:Int)+1=((2*i+1:Nat):Int)):=by show _=_;omega
   have k2:Hid (2*(i:Int)+1+1=((2*i+2:Nat):Int)):=by show _=_;omega
   have O:i<c.length:=by omega
   have y9:2*i+1<c.length:=by omega
   have HM:=(show Hid (fJ wr hb g cap c) from hM);have Z:=(show Hid (qG l c i0 n i) from hD);have x1:=(show Hid (c.length=l.length) from x0);obtain⟨z0,⟨cc,z1,x7,y7⟩,z5,z9,hne⟩:=hM;have s:=(show Hid (Bk wr g cc 32/\dX cc c c.length/\cc.size=cap*2) from⟨z1,x7,y7⟩);have M:=(show Hid (Bk wr hb #[.slice (some ⟨g,0,none⟩) c.length cap] 303) from z0);have z4:c.length<=1000000:=by omega
   clear hD z1 x7 y7 z0 x0
   by_cases h2:2*i+2<n
   ·have g3:2*(i:Int)+1+1<(n:Int):=by omega
    have y8:2*i+2<c.length:=by have:=x1.out;omega
    have y5:=pV M.out;cases hq:cO (gt c (2*i+2)) (gt c (2*i+1))
    ·have V:=(show Hid (rM c n i (2*i+1)) from Fe (by omega) (fun _=>hq));go_wp2_with fail;refine (lU s.out.1 s.out.2.1 (i:=2*i+2) (j:=2*i+1) k2.out k1.out y8 y9 hq).mono ?_;rintro e w1 ⟨rfl,A⟩;clear y5;cases hr:cO (gt c (2*i+1)) (gt c i)
     ·have D:=pV (M.out.keep A);go_wp2_with fail;refine (lU (s.out.1.keep A) s.out.2.1 (i:=2*i+1) (j:=i) k1.out rfl (by omega) O hr).mono ?_;rintro e L ⟨rfl,H⟩;have N:=(show Hid (∃c:LI,fJ L hb g cap c/\c.length=l.length/\(∀x,x∈c↔x∈l)/\(∀k,n<=k->gt c k=gt l k)/\cJ c n i0/\Bx g w L) from⟨c,(HM.out.keep A).keep H,x1.out,Z.out.mem,Z.out.far,Z.out.ca V.out hr,(hx.trans (Bx.aA A)).trans (Bx.aA H)⟩);clear D;go_wp2_with fail;go_ret;exact⟨⟨_,rfl⟩,N.out⟩
     ·have D:=pV (M.out.keep A);go_wp2_with fail;refine (lU (s.out.1.keep A) s.out.2.1 (i:=2*i+1) (j:=i) k1.out rfl (by omega) O hr).mono ?_;rintro e L ⟨rfl,H⟩;have G:sG wr.heap.size wr L:=aH A H;have x4:=(show Hid (fJ L hb g cap c) from HM.out.keep G);have x2:=xI (M.out.keep G);have y3:=s.out.2.2;clear D;go_wp2_with fail;refine (vR (s.out.1.keep G) s.out.2.1 (i:=i) (j:=2*i+1) rfl k1.out (by omega) O (by omega)).mono ?_;rintro e w5 ⟨rfl,c2,U,T,y6,R⟩;have x3:=(show Hid (fJ w5 hb g cap (dM c i (2*i+1))) from x4.out.swap U T (by omega) R);have x5:=(show Hid (qG l (dM c i (2*i+1)) i0 n (2*i+1)) from Z.out.step hn V.out hr);clear x2 U T;go_wp2_with fail;go_roundw
      case rel=>exact⟨2*i+1,dM c i (2*i+1),congrArg _ k1.out,by omega,x3.out,x5.out,(hx.trans (Bx.aA G)).trans R⟩
      case measure=>simp[intOf];omega
    ·have V:=(show Hid (rM c n i (2*i+2)) from Ly h2 hq);go_wp2_with fail;refine (lU s.out.1 s.out.2.1 (i:=2*i+2) (j:=2*i+1) k2.out k1.out y8 y9 hq).mono ?_;rintro e w1 ⟨rfl,A⟩;clear y5;cases hr:cO (gt c (2*i+2)) (gt c i)
     ·have D:=pV (M.out.keep A);go_wp2_with fail;refine (lU (s.out.1.keep A) s.out.2.1 (i:=2*i+2) (j:=i) k2.out rfl (by omega) O hr).mono ?_;rintro e L ⟨rfl,H⟩;have N:=(show Hid (∃c:LI,fJ L hb g cap c/\c.length=l.length/\(∀x,x∈c↔x∈l)/\(∀k,n<=k->gt c k=gt l k)/\cJ c n i0/\Bx g w L) from⟨c,(HM.out.keep A).keep H,x1.out,Z.out.mem,Z.out.far,Z.out.ca V.out hr,(hx.trans (Bx.aA A)).trans (Bx.aA H)⟩);clear D;go_wp2_with fail;go_ret;exact⟨⟨_,rfl⟩,N.out⟩
     ·have D:=pV (M.out.keep A);go_wp2_with fail;refine (lU (s.out.1.keep A) s.out.2.1 (i:=2*i+2) (j:=i) k2.out rfl (by omega) O hr).mono ?_;rintro e L ⟨rfl,H⟩;have G:sG wr.heap.size wr L:=aH A H;have x4:=(show Hid (fJ L hb g cap c) from HM.out.keep G);have x2:=xI (M.out.keep G);have y3:=s.out.2.2;clear D;go_wp2_with fail;refine (vR (s.out.1.keep G) s.out.2.1 (i:=i) (j:=2*i+2) rfl k2.out (by omega) O (by omega)).mono ?_;rintro e w5 ⟨rfl,c2,U,T,y6,R⟩;have x3:=(show Hid (fJ w5 hb g cap (dM c i (2*i+2))) from x4.out.swap U T (by omega) R);have x5:=(show Hid (qG l (dM c i (2*i+2)) i0 n (2*i+2)) from Z.out.step hn V.out hr);clear x2 U T;go_wp2_with fail;go_roundw
      case rel=>exact⟨2*i+2,dM c i (2*i+2),congrArg _ k2.out,by omega,x3.out,x5.out,(hx.trans (Bx.aA G)).trans R⟩
      case measure=>simp[intOf];omega
   ·have g3:¬(2*(i:Int)+1+1<(n:Int)):=by omega
    have V:=(show Hid (rM c n i (2*i+1)) from Fe (by omega) (fun e=>absurd e h2));have A:sG wr.heap.size wr wr:=wH _ _;cases hr:cO (gt c (2*i+1)) (gt c i)
    ·have D:=pV (M.out.keep A);go_wp2_with fail;refine (lU (s.out.1.keep A) s.out.2.1 (i:=2*i+1) (j:=i) k1.out rfl (by omega) O hr).mono ?_;rintro e L ⟨rfl,H⟩;have N:=(show Hid (∃c:LI,fJ L hb g cap c/\c.length=l.length/\(∀x,x∈c↔x∈l)/\(∀k,n<=k->gt c k=gt l k)/\cJ c n i0/\Bx g w L) from⟨c,(HM.out.keep A).keep H,x1.out,Z.out.mem,Z.out.far,Z.out.ca V.out hr,(hx.trans (Bx.aA A)).trans (Bx.aA H)⟩);clear D;go_wp2_with fail;go_ret;exact⟨⟨_,rfl⟩,N.out⟩
    ·have D:=pV (M.out.keep A);go_wp2_with fail;refine (lU (s.out.1.keep A) s.out.2.1 (i:=2*i+1) (j:=i) k1.out rfl (by omega) O hr).mono ?_;rintro e L ⟨rfl,H⟩;have G:sG wr.heap.size wr L:=aH A H;have x4:=(show Hid (fJ L hb g cap c) from HM.out.keep G);have x2:=xI (M.out.keep G);have y3:=s.out.2.2;clear D;go_wp2_with fail;refine (vR (s.out.1.keep G) s.out.2.1 (i:=i) (j:=2*i+1) rfl k1.out (by omega) O (by omega)).mono ?_;rintro e w5 ⟨rfl,c2,U,T,y6,R⟩;have x3:=(show Hid (fJ w5 hb g cap (dM c i (2*i+1))) from x4.out.swap U T (by omega) R);have x5:=(show Hid (qG l (dM c i (2*i+1)) i0 n (2*i+1)) from Z.out.step hn V.out hr);clear x2 U T;go_wp2_with fail;go_roundw
     case rel=>exact⟨2*i+1,dM c i (2*i+1),congrArg _ k1.out,by omega,x3.out,x5.out,(hx.trans (Bx.aA G)).trans R⟩
     case measure=>simp[intOf];omega
structure HF (hb:Nat)(w w':fD):Prop where
 os:w'.os=w.os
 tape:w'.tape=w.tape
 output:w'.output=w.output
 size:w.heap.size<=w'.heap.size
 keep:∀k,k<w.heap.size->k≠hb->cA w hb≠some k->w'.heap[k]?=w.heap[k]?
 arr:cA w' hb=cA w hb\/∃q,cA w' hb=some q/\w.heap.size<=q/\q<w'.heap.size
theorem HF.refl (hb:Nat)(w:fD):HF hb w w:=⟨rfl,rfl,rfl,oO _,fun _ _ _ _=>rfl,.inl rfl⟩
theorem HF.trans {A B C:fD}(h:HF hb A B)(k:HF hb B C):HF hb A C where
 os:=k.os.trans h.os
 tape:=k.tape.trans h.tape
 output:=k.output.trans h.output
 size:=sE h.size k.size
 keep i hi hm ha:=by
  rw[<- h.keep i hi hm ha];refine k.keep i (rN hi h.size) hm ?_
  rcases h.arr with e|⟨q,e,hq,_⟩
  ·rw[e];exact ha
  ·rw[e];intro G;cases G;omega
 arr:=by
  rcases k.arr with e|⟨q,e,hq,s⟩
  ·rcases h.arr with D|⟨q,D,hq,s⟩
   ·exact .inl (e.trans D)
   ·exact .inr ⟨q,e.trans D,hq,rN s k.size⟩
  ·exact .inr ⟨q,e,sE h.size hq,s⟩
theorem HF.below (h:sG W.heap.size W W')(hm:hb<W.heap.size):HF hb W W':=
 ⟨h.os,h.tape,h.output,h.size,fun k s _ _=>h.block k s,.inl (aB (h.block hb hm))⟩
theorem hZ {t:iC}(h:Bk w hb #[v] t):cA w hb=v.ownBlock:=by
 unfold cA;rw[h.cell (i:=0) (v:=v) rfl];rfl
theorem HF.dx {t:iC}(h:Bx g w w')(s:Bk w hb #[v] t)(A:v.ownBlock=some g)(hne:hb≠g):HF hb w w':=by
 have e:=hZ s;refine⟨h.os,h.tape,h.output,h.size,fun k D _ ha=>h.block k D (fun G=>ha (by rw[e,A,G])),.inl (aB (h.block hb s.lt hne))⟩
theorem HF.dw {v':fV}{t:iC}(h:Bx hb w w')(A:Bk w hb #[v] t)(s:Bk w' hb #[v'] t)(D:v'.ownBlock=v.ownBlock):HF hb w w':=
 ⟨h.os,h.tape,h.output,h.size,fun k G hm _=>h.block k G hm,.inl (by rw[hZ A,hZ s,D])⟩
theorem HF.bk {c:Array fV}{t:iC}(h:HF hb w w')(s:Bk w k c t)(hm:k≠hb)(ha:cA w hb≠some k):Bk w' k c t:=by
 unfold Bk;rw[h.keep k s.lt hm ha];exact s
def Hp (w:fD)(hb:Nat)(l:LI):Prop:=∃v:fV,Bk w hb #[v] 303/\aW w 0 v l/\v.ownBlock≠some hb
theorem Hp.keep (h:Hp w hb l)(hx:sG w.heap.size w w1):Hp w1 hb l:=by
 obtain⟨v,h1,h2,h3⟩:=h;exact⟨v,h1.keep hx,bJ h2 hx,h3⟩
theorem Hp.open (h:Hp w hb l):(Bk w hb #[.slice none 0 0] 303/\l=[])\/∃g cap,fJ w hb g cap l:=by
 obtain⟨v,h1,h2,h3⟩:=h
 rcases kE h2 with⟨rfl,rfl⟩|⟨g,cap,c,rfl,_,s,hs,A,hm,hf⟩
 ·exact .inl ⟨h1,rfl⟩
 ·exact .inr ⟨g,cap,h1,⟨c,s,hf,hs⟩,A,hm,fun e=>h3 (by rw[e];rfl)⟩
theorem fJ.hp (h:fJ w hb g cap l):Hp w hb l:=by
 obtain⟨h1,⟨c,h2,h3,h4⟩,h5,h6,h7⟩:=h;exact⟨_,h1,tX h2 h3 h4 h5 h6 (qA _),fun e=>h7 (by simpa[sH]using e.symm)⟩
theorem fJ.frame (h:fJ w hb g cap l)(hx:Bx g w w1):HF hb w w1:=HF.dx hx h.1 rfl h.2.2.2.2
theorem fJ.pop (h:fJ w hb g cap l)(H:l.length=k+1)(s:Bk w1 hb #[.slice (some ⟨g,0,none⟩) k cap] 303)(hx:Bx hb w w1):fJ w1 hb g cap (l.take k):=by
 obtain⟨h1,⟨c,h2,h3,h4⟩,h5,h6,h7⟩:=h;have e:(l.take k).length=k:=by rw[mJ];omega
 refine⟨by rw[e];exact s,⟨c,h2.aN hx (fun G=>h7 G.symm),fun i hi=>?_,h4⟩,by omega,h6,h7⟩;rw[e]at hi;have:=h3 i (by omega);have D:tA (l.take k) i=tA l i:=congrArg (·.1) (lE (l:=l) hi);have A:tB (l.take k) i=tB l i:=congrArg (·.2) (lE (l:=l) hi);rw[D,A];exact this
theorem LT (h:fJ w hb g cap l)(H:l.length=k+1):
  gY oJ 337 #[.pointer (some ⟨hb,0,none⟩)] w fun e w'=>e=.returned (.iface 32 (tv (gt l k).1 (gt l k).2))/\fJ w' hb g cap (l.take k)/\Bx hb w w':=by
 have T:=(show Hid (fJ w hb g cap l) from h);obtain⟨A,⟨c,D,s,L⟩,O,M,hne⟩:=h;have c0:=A.cell (i:=0) rfl;have f0:=A.free 0;have Z:=A.lt;have V:=D.lt;have q0:=D.cell (s k (by omega)).1;have q1:=D.cell (s k (by omega)).2;have N:Hid (∀w',Bk w' hb #[.slice (some ⟨g,0,none⟩) k cap] 303->Bx hb w w'->fJ w' hb g cap (l.take k)):=fun w' h1 h2=>T.out.pop H h1 h2;have U:=(show Hid (Bk w hb #[.slice (some ⟨g,0,none⟩) l.length cap] 303) from A);have i1:lY.wrap ((l.length:Int)-1)=(k:Int):=by unfold maxLen at M;rw[lI];omega
 have i2:(k:Int)<(l.length:Int):=by omega
 have i3:(k:Int)<=(cap:Int):=by omega
 have i4:k<=cap:=by omega
 have i5:k<l.length:=by omega
 rw[LW];clear A D s L H;generalize tA l k=X at*;generalize tB l k=Y at*;generalize l.length=n at*;go_enter Tryz.func337,Tryz.ntmps337;go_wp2_with fail;go_ret;have R:=((U.out.set 0 (.slice (some ⟨g,0,none⟩) k cap)).alloc (.cells #[.int .i64 X,.int .i64 Y] 32));have G:=((Bx.refl hb w).ae (p:=⟨hb,0,none⟩) rfl (.slice (some ⟨g,0,none⟩) k cap)).alloc (.cells #[.int .i64 X,.int .i64 Y] 32);exact⟨rfl,N.out _ R G,G⟩
theorem HF.grow {s:fD}{u:fV}{t:iC}(hb:Bk W m #[v] t)(hg:W.grownBy s v.ownBlock)(L:v.ownBlock≠some m)(M:u.ownBlock=v.ownBlock\/∃q,u.ownBlock=some q/\W.heap.size<=q/\q<s.heap.size):
  Bk (s.setCell ⟨m,0,none⟩ u) m #[u] t/\HF m W (s.setCell ⟨m,0,none⟩ u):=by
 have hm:=hb.lt;have e0:cA W m=v.ownBlock:=hZ hb;have H:Bk s m #[v] t:=by
  unfold Bk;rw[hg.block m hm (fun e=>L e.symm)];exact hb
 have A:=H.set 0 u;have D:(s.setCell ⟨m,0,none⟩ u).heap.size=s.heap.size:=by simp
 refine⟨A,?_,?_,?_,by rw[D];exact hg.size,fun k N G ha=>?_,?_⟩
 ·exact hg.os
 ·exact hg.tape
 ·exact hg.output
 ·rw[wR _ _ _ _ (show k≠(⟨m,0,none⟩:jU).block from G),hg.block k N (fun e=>ha (by rw[e0,e]))]
 ·rw[hZ A,e0,D];exact M
section
variable {P:kR}
theorem Ie {ops:Array Oper}{o:Oper}{a:Act}{K:Act->fD->Prop}{Q:Exit->Act->fD->Prop}{E:Prop}(w:fD)(M:o.guard=none)(s x:Operand)
  (ho:o.op=.call { callee:= .builtin .append,args:=#[s,x],argTypes:=#[303,303] }) (v:fV) (l:LI) (hs:a.eval s=v) (A:aW w 0 v l) (D:Nat) (X Y:Int)
  (hx:a.eval x=.slice (some ⟨D,0,none⟩) 1 1) (N:∀j u,[sI .i64 X,sI .i64 Y][j]?=some u->w.cell? ((⟨D,0,none⟩:jU).add j)=some u) (hl:l.length<=2000000)
  (h:∀g cap w',aW w' 0 (.slice (some ⟨g,0,none⟩) (l.length+1) cap) (l++[(X,Y)])->w.grownBy w' v.ownBlock->(v.ownBlock=some g\/g=w.heap.size)->g<w'.heap.size->K (a.put o.dst (.slice (some ⟨g,0,none⟩) (l.length+1) cap)) w'):
  if Region.wanted o (yielded ops a.tmps)=true then Oper.wp oJ o a w K Q else E:=by
 obtain⟨i0,hi,L,H,G⟩:=info_parts mW;refine step_append_lies (P:=oJ) (w:=w) M s x 303 ho 0 32 i0 (.agg #[.int .i64 0,.int .i64 0]) 2 16 Tryz.underlying303 hi L H G rfl (by decide) v l.length (jG l) hs A ⟨D,0,none⟩ 1 1 [.int .i64 X,.int .i64 Y] hx rfl N (mV _ _) (by omega) (by unfold maxLen;omega) (by omega) (qA _) w.heap.size rfl ?_;intro g cap w' h1 h2 h3 h4;refine h g cap w' ?_ h2 h3 h4
 show w'.ownsRow _ _ _ _ _ _
 rw[iM];simpa using h1
end
theorem Fh (X Y:Int)(w:fD):(Instr.typeAssert (.iface 32 (tv X Y)) 20 32 false).run oJ w=.ok (tv X Y) w:=by kernel_rfl
theorem De {A:fD}(D:Bk w hb #[v] 303)(L:v.ownBlock≠some hb)(H:sG w.heap.size w w1)(h1:aW A 0 (.slice (some ⟨g,0,none⟩) (l.length+1) cap) (l++[(X,Y)]))(h2:w1.grownBy A v.ownBlock)(h3:v.ownBlock=some g\/g=w1.heap.size)(h4:g<A.heap.size):
  A.frozen? ⟨hb,0,none⟩=false/\A.cell? ⟨hb,0,none⟩=some v/\Hid (Hp (A.setCell ⟨hb,0,none⟩ (.slice (some ⟨g,0,none⟩) (l.length+1) cap)) hb (l++[(X,Y)])/\HF hb w (A.setCell ⟨hb,0,none⟩ (.slice (some ⟨g,0,none⟩) (l.length+1) cap))):=by
 have s:=D.keep H;have G:Bk A hb #[v] 303:=by unfold Bk;rw[h2.block hb s.lt (fun e=>L e.symm)];exact s
 have hg:g≠hb:=by
  rcases h3 with h3|h3
  ·intro e;exact L (by rw[h3,e])
  ·have:=s.lt;omega
 obtain⟨N,M⟩:=HF.grow (u:= .slice (some ⟨g,0,none⟩) (l.length+1) cap) s h2 L (by
  rcases h3 with h3|h3
  ·exact .inl (by rw[h3];rfl)
  ·exact .inr ⟨g,rfl,by omega,h4⟩)
 refine⟨G.free 0,G.cell (i:=0) (v:=v) rfl,⟨_,N,?_,fun e=>hg (by simpa[sH]using e)⟩,(HF.below H D.lt).trans M⟩;exact dF h1 fun q e=>wR _ _ _ _ (show q≠hb from fun O=>hg (by rw[<- O];simpa[sH]using e))
theorem Jo (h:Hp w hb l)(hl:l.length<=1000000):
  gY oJ 338 #[.pointer (some ⟨hb,0,none⟩),.iface 32 (tv X Y)] w fun e w'=>e=.returned (.tuple #[])/\Hp w' hb (l++[(X,Y)])/\HF hb w w':=by
 obtain⟨v,A,D,O⟩:=h;have c0:=A.cell (i:=0) (v:=v) rfl;have f0:=A.free 0;have h9:=A.lt;have G:sG w.heap.size w (w.drew.alloc (.cells #[.int .i64 X,.int .i64 Y] 32)):=aG (wH _ _).drew _;have R:Hid (aW (w.drew.alloc (.cells #[.int .i64 X,.int .i64 Y] 32)) 0 v l):=bJ D G;have V:Hid (∀g cap s,aW s 0 (.slice (some ⟨g,0,none⟩) (l.length+1) cap) (l++[(X,Y)])->(w.drew.alloc (.cells #[.int .i64 X,.int .i64 Y] 32)).grownBy s v.ownBlock->(v.ownBlock=some g\/g=(w.drew.alloc (.cells #[.int .i64 X,.int .i64 Y] 32)).heap.size)->g<s.heap.size ->
   s.frozen? ⟨hb,0,none⟩=false/\s.cell? ⟨hb,0,none⟩=some v/\Hid (Hp (s.setCell ⟨hb,0,none⟩ (.slice (some ⟨g,0,none⟩) (l.length+1) cap)) hb (l++[(X,Y)])/\HF hb w (s.setCell ⟨hb,0,none⟩ (.slice (some ⟨g,0,none⟩) (l.length+1) cap)))):=fun g cap s h1 h2 h3 h4=>De A O G h1 h2 h3 h4
 have Z:Hid (∀j u,[sI .i64 X,sI .i64 Y][j]?=some u->(w.drew.alloc (.cells #[.int .i64 X,.int .i64 Y] 32)).cell? ((⟨w.drew.heap.size,0,none⟩:jU).add j)=some u):=vS _ _ _ _;have ta:=Fh X Y w.drew;clear A D O G;go_enter Tryz.func338,Tryz.ntmps338;go_wp2_with fail
 go_region_law (refine Ie _ (by rfl) (.tmp 7) (.tmp 10) (by rfl) v l (by simp[Act.eval]) R.out w.heap.size X Y (by simp[Act.eval]) Z.out (by omega) ?_;intro g3 U s N M L H;obtain⟨fz,cz,T⟩:=V.out _ _ _ N M L H;clear N M L H)
 all_goals
  go_wp2_with fail
  go_end0
  exact⟨rfl,T.out⟩
theorem DI {a b:Int}(h:fJ w hb g cap l)(s:cJ l n (i0+1))(hn:n<=l.length)(A:i0<=n)(hl:l.length<=1000000)(ha:a=(i0:Int))(D:b=(n:Int)):
  gY oJ 278 #[C6 hb,.int .i64 a,.int .i64 b] w fun e w'=>(∃v,e=.returned v)/\∃c:LI,fJ w' hb g cap c/\c.length=l.length/\(∀x,x∈c↔x∈l)/\(∀k,n<=k->gt c k=gt l k)/\cJ c n i0/\Bx g w w':=by
 subst ha D;exact JZ h s hn A hl
theorem Ns {j0:Nat}{a:Int}(h:fJ w hb g cap l)(s:qH l l j0)(hl:l.length<=1000000)(ha:a=(j0:Int)):
  gY oJ 279 #[C6 hb,.int .i64 a] w fun e w'=>e=.returned (.tuple #[])/\∃c:LI,fJ w' hb g cap c/\c.length=l.length/\(∀x,x∈c↔x∈l)/\cJ c l.length 0/\Bx g w w':=by
 subst ha;exact MS h s hl
theorem Ko (h:Hp w hb l)(hL:cJ l l.length 0)(h0:0<l.length)(hl:l.length<=1000000):
  gY oJ 263 #[C6 hb] w fun e w'=>e=.returned (.iface 32 (tv (gt l 0).1 (gt l 0).2))/\∃c:LI,Hp w' hb c/\c.length+1=l.length/\(∀x,x∈l↔x=gt l 0\/x∈c)/\cJ c c.length 0/\HF hb w w':=by
 rcases h.open with⟨_,rfl⟩|⟨g,cap,hM⟩
 ·simp at h0
 obtain⟨k,hk⟩:∃k,l.length=k+1:=⟨l.length-1,by omega⟩;have HM:=(show Hid (fJ w hb g cap l) from hM);obtain⟨M,⟨cc,x0,D,h9⟩,z2,z6,hne⟩:=hM;have x8:=Gw M;have x6:=xI M;have G:=(show Hid (Bk w g cc 32/\dX cc l l.length/\cc.size=cap*2) from⟨x0,D,h9⟩);have A:=(show Hid (l.length=k+1) from hk);have y8:=(show Hid (cJ l l.length 0) from hL);have i1:lY.wrap ((l.length:Int)-1)=(k:Int):=by rw[lI];omega
 clear M x0 D h9 h hk hL;go_enter Tryz.func263,Tryz.ntmps263;go_wp2_with fail;refine (AD _ _ _ _).mono ?_;rintro e w0 ⟨rfl,rfl⟩;clear x8;go_wp2_with fail;refine (vR (i:=0) (j:=k) G.out.1 G.out.2.1 rfl rfl (by have:=G.out.2.2;omega) (by omega) (by have:=A.out;omega)).mono ?_;rintro e w1 ⟨rfl,c1,x1,Z,z5,T⟩;have y4:=(show Hid (fJ w1 hb g cap (dM l 0 k)) from HM.out.swap x1 Z (by have:=G.out.2.2;omega) T);have y7:Hid (cJ (dM l 0 k) k (0+1)):=by
  have:=M6 y8.out h0;rw[show l.length-1=k from by have:=A.out;omega]at this;exact this
 clear x6 x1 Z;go_wp2_with fail;refine (DI (i0:=0) (n:=k) y4.out y7.out (by rw[jA];have:=A.out;omega) (by omega) (by rw[jA];exact hl) rfl rfl).mono ?_;rintro e O ⟨⟨v2,rfl⟩,c2,x3,L,U,s,H,x9⟩;have x7:=Nw ⟨hb,0,none⟩ O;have x4:=(show Hid (fJ O hb g cap c2) from x3);have N:Hid (c2.length=k+1):=by show _=_;rw[L,jA];exact A.out
 have HG:Hid (gt c2 k=gt l 0):=by
  show _=_
  rw[s k (oO _),mI h0 (by have:=A.out;omega),if_pos rfl]
 have y3:Hid (∀x,x∈l↔x=gt l 0\/x∈c2.take k):=fun x=>by
  have e:l.length-1=k:=by have:=A.out;omega
  have:=MG (c:=c2) h0 (.inr ⟨by rw[L,jA],by rw[e];exact U,fun k' V=>by rw[e]at V ⊢;exact s k' V⟩) x;rw[e]at this;exact this
 have y6:Hid (cJ (c2.take k) (c2.take k).length 0):=Jl H (by have:=N.out;omega);have HX:Hid (HF hb w0 O):=HM.out.frame (T.trans x9);clear x3 L U s H;go_wp2_with fail;refine (LT x4.out N.out).mono ?_;rintro e w3 ⟨rfl,x2,R⟩;have y9:Hid (HF hb O w3):=HF.dw R x4.out.1 x2.1 rfl;clear x7 R;go_wp2_with fail;go_ret;refine⟨by rw[HG.out];rfl,c2.take k,x2.hp,?_,y3.out,y6.out,HX.out.trans y9.out⟩;rw[mJ];have:=N.out;have:=A.out;omega
theorem IZ (h:Hp w hb l)(T:cJ l l.length 0)(hl:l.length+1<=1000000):
  gY oJ 264 #[C6 hb,.iface 32 (tv X Y)] w fun e w'=>e=.returned (.tuple #[])/\∃c:LI,Hp w' hb c/\c.length=l.length+1/\(∀x,x∈c↔x∈l\/x=(X,Y))/\cJ c c.length 0/\HF hb w w':=by
 have M:=Nk ⟨hb,0,none⟩ w;have HU:Hid (qH (l++[(X,Y)]) (l++[(X,Y)]) l.length):=qH.start T;have HH:=(show Hid (Hp w hb l) from h);clear h T;go_enter Tryz.func264,Tryz.ntmps264;go_wp2_with fail;refine (Jo (X:=X) (Y:=Y) HH.out (by omega)).mono ?_;rintro e w1 ⟨rfl,A,U⟩;have s:(l++[(X,Y)]).length=l.length+1:=by simp
 rcases A.open with⟨_,e⟩|⟨g,cap,H⟩
 ·simp at e
 have V:=(show Hid (fJ w1 hb g cap (l++[(X,Y)])) from H);have N:=Gw H.1;have i1:lY.wrap (((l++[(X,Y)]).length:Int)-1)=(l.length:Int):=by rw[lI,s];omega
 have D:=(show Hid ((l++[(X,Y)]).length=l.length+1) from s);have L:Hid (∀x,x∈l++[(X,Y)]↔x∈l\/x=(X,Y)):=fun x=>by simp
 clear M A H s;generalize O:l++[(X,Y)]=l1 at*;clear O;go_wp2_with fail;refine (AD _ _ _ _).mono ?_;rintro e w0 ⟨rfl,rfl⟩;clear N;go_wp2_with fail;refine (Ns (j0:=l.length) V.out HU.out (by have:=D.out;omega) rfl).mono ?_;rintro e w2 ⟨rfl,c,R,Z,hm,G,hx⟩;go_wp2_with fail
 go_end0
 refine⟨rfl,c,R.hp,by have:=D.out;omega,fun x=>(hm x).trans (L.out x),by rw[Z];exact G,U.trans (V.out.frame hx)⟩
theorem IR (h:Hp w hb l)(hl:l.length<=1000000):
  gY oJ 262 #[C6 hb] w fun e w'=>e=.returned (.tuple #[])/\∃c:LI,Hp w' hb c/\c.length=l.length/\(∀x,x∈c↔x∈l)/\cJ c c.length 0/\HF hb w w':=by
 obtain⟨v,H,A,hv⟩:=h;have HH:Hid (Hp w hb l):=⟨v,H,A,hv⟩;obtain⟨ad,cap,rfl⟩:∃ad cap,v=.slice ad l.length cap:=by
  rcases kE A with⟨rfl,rfl⟩|⟨g,cap,c,rfl,_⟩
  ·exact⟨_,_,rfl⟩
  ·exact⟨_,_,rfl⟩
 have N:=Gw H;clear H A hv;obtain⟨n,hn⟩:∃n,l.length=n:=⟨_,rfl⟩;rw[hn]at N;have HN:=(show Hid (l.length=n) from hn);have i1:lY.wrap ((n:Int).tdiv 2)=((n / 2:Nat):Int):=by
  rw[B3 (by omega),lI];omega
 have Z:Hid (cJ l n (n / 2)):=fun m h0 hm hi=>by omega
 obtain⟨z,i2,D⟩:∃z:Int,lY.wrap (((n / 2:Nat):Int)-1)=z/\((z = -1/\n / 2=0)\/∃k:Nat,z=(k:Int)/\n / 2=k+1):=by
  by_cases h0:n / 2=0
  ·exact⟨_,by rw[h0];rfl,.inl ⟨rfl,h0⟩⟩
  ·exact⟨((n / 2-1:Nat):Int),by rw[lI];omega,.inr ⟨_,rfl,by omega⟩⟩
 have HZ:=(show Hid ((z = -1/\n / 2=0)\/∃k:Nat,z=(k:Int)/\n / 2=k+1) from D);have y3:n<=1000000:=by omega
 clear D hl hn;generalize hq:n / 2=q at i1 i2;clear hq;go_enter Tryz.func262,Tryz.ntmps262;go_wp2_with fail;refine (AD _ _ _ _).mono ?_;rintro e w0 ⟨rfl,rfl⟩;clear N;go_wp2_with fail
 go_loopw [3] (fun i wr=>∃c:LI,((i=.int .i64 (-1)/\cJ c n 0)\/∃j:Nat,i=.int .i64 j/\2*j+1<n/\cJ c n (j+1))/\Hp wr hb c/\c.length=n/\(∀x,x∈c↔x∈l)/\HF hb w0 wr) (fun i _=>(intOf i+1).toNat)
 case atStart=>
  refine⟨l,?_,HH.out,HN.out,fun _=>Iff.rfl,HF.refl _ _⟩
  rcases HZ.out with⟨rfl,h0⟩|⟨k,rfl,h1⟩
  ·refine .inl ⟨congrArg _ (by omega),?_⟩;have:=Z.out;rw[h0]at this;exact this
  ·refine .inr ⟨k,congrArg _ (by omega),by omega,?_⟩;have:=Z.out;rw[h1]at this;exact this
 case round=>
  clear i1 i2;obtain⟨c,hi,hH,G,hm,hF⟩:=hrel
  rcases hi with⟨rfl,s⟩|⟨j,rfl,hj,s⟩
  ·go_wp2_with fail
   go_end0
   exact⟨rfl,c,hH,by rw[G];exact HN.out.symm,hm,by rw[G];exact s,hF⟩
  ·have g1:(0:Int)<=(j:Int):=by omega
   rcases hH.open with⟨_,rfl⟩|⟨g,x2,hM⟩
   ·simp at G;omega
   have HM:=(show Hid (fJ wr hb g x2 c) from hM);have x9:=(show Hid (cJ c n (j+1)) from s);have M:=(show Hid (c.length=n/\∀x,x∈c↔x∈l) from⟨G,hm⟩);clear hH hM s G hm;obtain⟨L,i2,D⟩:∃z:Int,lY.wrap ((j:Int)-1)=z/\((z = -1/\j=0)\/∃k:Nat,z=(k:Int)/\j=k+1):=by
    by_cases h0:j=0
    ·exact⟨_,by rw[h0];rfl,.inl ⟨rfl,h0⟩⟩
    ·exact⟨((j-1:Nat):Int),by rw[lI];omega,.inr ⟨_,rfl,by omega⟩⟩
   have V:=(show Hid ((L = -1/\j=0)\/∃k:Nat,L=(k:Int)/\j=k+1) from D);clear D;go_wp2_with fail;refine (DI (i0:=j) (n:=n) HM.out x9.out (by have:=M.out.1;omega) (by omega) (by have:=M.out.1;omega) rfl rfl).mono ?_;rintro e w2 ⟨⟨v2,rfl⟩,c2,U,T,R,x0,s,O⟩;have HR:Hid (∃c:LI,((sI .i64 L=.int .i64 (-1)/\cJ c n 0)\/∃j:Nat,sI .i64 L=.int .i64 j/\2*j+1<n/\cJ c n (j+1))/\Hp w2 hb c/\c.length=n/\(∀x,x∈c↔x∈l)/\HF hb w0 w2):=by
    refine⟨c2,?_,U.hp,T.trans M.out.1,fun x=>(R x).trans (M.out.2 x),hF.trans (HM.out.frame O)⟩
    rcases V.out with⟨rfl,rfl⟩|⟨k,rfl,rfl⟩
    ·exact .inl ⟨rfl,s⟩
    ·exact .inr ⟨k,rfl,by omega,s⟩
   clear U T R x0 s O;go_wp2_with fail;go_roundw
   case rel=>exact HR.out
   case measure=>simp only[intOf];rcases V.out with⟨rfl,rfl⟩|⟨k,rfl,rfl⟩<;>omega
def jF (s t:Int×Int):Int×Int:=(max s.1 t.1,max s.2 t.2)
structure nF (l:List Rw)(n:Nat)(next:LI):Prop where
 le:n<=(jT l).length
 inn:∀x∈next,x∈jT l
 rows:∀r∈l,r.1.2∈(jT l).take n\/r.1.2∈next
 joins:∀p∈(jT l).take n,∀q∈(jT l).take n,jF p q∈(jT l).take n\/jF p q∈next
 late:∀p∈(jT l).take n,∀x∈next,jW p x
theorem Fw {l:List Rw}(h:aR l=true){r:Rw}(hr:r∈l):r.1.2∈jT l:=by
 rw[k6,qX];refine⟨?_,r,hr,r,hr,by omega,by omega⟩;have:=eY h hr;exact qY this
theorem Ff {l:List Rw}{s:Int×Int}(hs:s∈jT l)(M:t∈jT l):jF s t∈jT l:=by
 rw[k6,qX]at *;obtain⟨h1,p,hp,q,hq,U,T⟩:=hs;obtain⟨N,G,L,D,H,R,O⟩:=M;rw[eL]at *;refine⟨by simp only[jF];omega,?_⟩;have:∃a∈l,a.1.2.1=max s.1 t.1/\a.1.2.2<=max s.2 t.2:=by
  have:max p.1.2.1 q.1.2.1=max s.1 t.1\/max G.1.2.1 D.1.2.1=max s.1 t.1:=by omega
  rcases this with e|e
  ·have:p.1.2.1=max s.1 t.1\/q.1.2.1=max s.1 t.1:=by omega
   rcases this with A|A
   ·exact⟨p,hp,A,by omega⟩
   ·exact⟨q,hq,A,by omega⟩
  ·have:G.1.2.1=max s.1 t.1\/D.1.2.1=max s.1 t.1:=by omega
   rcases this with A|A
   ·exact⟨G,L,A,by omega⟩
   ·exact⟨D,H,A,by omega⟩
 obtain⟨a,ha,a1,a2⟩:=this;have:∃b∈l,b.1.2.2=max s.2 t.2/\b.1.2.1<=max s.1 t.1:=by
  have:max p.1.2.2 q.1.2.2=max s.2 t.2\/max G.1.2.2 D.1.2.2=max s.2 t.2:=by omega
  rcases this with e|e
  ·have:p.1.2.2=max s.2 t.2\/q.1.2.2=max s.2 t.2:=by omega
   rcases this with A|A
   ·exact⟨p,hp,A,by omega⟩
   ·exact⟨q,hq,A,by omega⟩
  ·have:G.1.2.2=max s.2 t.2\/D.1.2.2=max s.2 t.2:=by omega
   rcases this with A|A
   ·exact⟨G,L,A,by omega⟩
   ·exact⟨D,H,A,by omega⟩
 obtain⟨b,hb,Z,V⟩:=this;exact⟨a,ha,b,hb,by simp only[jF];omega,by simp only[jF];omega⟩
theorem nF.start {l:List Rw}{next:LI}(h:aR l=true)(hm:∀x,x∈next↔x∈l.map fun r=>r.1.2):nF l 0 next where
 le:=qA _
 inn x hx:=by
  obtain⟨r,hr,rfl⟩:=List.mem_map.1 ((hm x).1 hx);exact Fw h hr
 rows r hr:= .inr ((hm _).2 (List.mem_map_of_mem hr))
 joins p hp:=by simp at hp
 late p hp:=by simp at hp
theorem Hr (s t:Int×Int):jW s (jF s t):=by rw[uK];simp only[jF];omega
theorem Aw (s t:Int×Int):jW t (jF s t):=by rw[uK];simp only[jF];omega
theorem nF.ahead {l:List Rw}{next:LI}(h:nF l n next)(D:∀x∈next,jW t x){y:Int×Int}(H:y∈jT l)(A:cO y t=true):y∈(jT l).take n:=by
 rw[k6,qX]at H;obtain⟨_,p,hp,q,hq,M,L⟩:=H;have s:∀x∈next,¬jW x y:=fun x hx e=>by
  have:=n8 (D x hx) e;unfold jW at this;rw[this]at A;cases A
 have G:jF p.1.2 q.1.2=y:=Prod.ext M L;have h1:p.1.2∈(jT l).take n:=(h.rows p hp).resolve_right fun hx=>s _ hx (by rw[<- G];exact Hr _ _);have h2:q.1.2∈(jT l).take n:=(h.rows q hq).resolve_right fun hx=>s _ hx (by rw[<- G];exact Aw _ _);have h3:=h.joins _ h1 _ h2;rw[G]at h3;exact h3.resolve_right fun hx=>s _ hx (vM _)
theorem Av (h:l.Pairwise fun p q=>cO p q=true)(A:i<j)(s:j<l.length):cO (gt l i) (gt l j)=true:=by
 rw[List.pairwise_iff_getElem]at h;have:=h i j (by omega) s A
 simpa[gt,show i<l.length from by omega,s]using this
theorem Hx :cO t t=false:=by rw[Bool.eq_false_iff];intro e;rw[DP]at e;omega
theorem iL (hn:n<=l.length):x∈l.take n↔∃j,j<n/\gt l j=x:=by
 constructor
 ·intro h;obtain⟨k,s,e⟩:=oH h;rw[mJ]at s;exact⟨k,by omega,by rw[<- lE (n:=n) (by omega)];exact e⟩
 ·rintro⟨j,A,rfl⟩;rw[<- lE A];exact iH (by rw[mJ];omega)
theorem nF.next {l:List Rw}{next:LI}(h:nF l n next)(G:t∈next)(D:∀x∈next,jW t x)(A:t ∉ (jT l).take n):n<(jT l).length/\gt (jT l) n=t:=by
 obtain⟨j,L,e⟩:=oH (h.inn t G);have hs:=qL l;have N:n<=j:=by
  by_cases hq:n<=j
  ·exact hq
  ·exact absurd ((iL h.le).2 ⟨j,by omega,e⟩) A
 by_cases hq:n=j
 ·exact⟨by omega,by rw[hq];exact e⟩
 ·exfalso
  have s:=Av hs (i:=n) (j:=j) (by omega) L;rw[e]at s;have:=h.ahead D (iH (by omega)) s;obtain⟨k,H,M⟩:=(iL h.le).1 this;have h3:=Av hs H (by omega);rw[M,Hx]at h3;cases h3
theorem nF.last {l:List Rw}{next:LI}(h:nF l n next)(A:t∈next)(s:t∈(jT l).take n):0<n/\gt (jT l) (n-1)=t:=by
 obtain⟨k,D,e⟩:=(iL h.le).1 s;refine⟨by omega,?_⟩;have h1:=h.late (gt (jT l) (n-1)) ((iL h.le).2 ⟨n-1,by omega,rfl⟩) t A
 by_cases hq:k=n-1
 ·rw[<- hq];exact e
 ·have h2:=Av (qL l) (i:=k) (j:=n-1) (by omega) (by have:=h.le;omega);rw[e]at h2;unfold jW at h1;rw[h1]at h2;cases h2
theorem nF.skip {l:List Rw}{next:LI}(h:nF l n next)(s:t∈(jT l).take n)(hm:∀x,x∈next↔x=t\/x∈c):nF l n c where
 le:=h.le
 inn x hx:=h.inn x ((hm x).2 (.inr hx))
 rows r hr:=by
  rcases h.rows r hr with h1|h1
  ·exact .inl h1
  ·rcases (hm _).1 h1 with e|e
   ·exact .inl (by rw[e];exact s)
   ·exact .inr e
 joins p hp q hq:=by
  rcases h.joins p hp q hq with h1|h1
  ·exact .inl h1
  ·rcases (hm _).1 h1 with e|e
   ·exact .inl (by rw[e];exact s)
   ·exact .inr e
 late p hp x hx:=h.late p hp x ((hm x).2 (.inr hx))
theorem Dn (t:Int×Int):jF t t=t:=by unfold jF;exact Prod.ext (by simp only;omega) (by simp only;omega)
theorem EA (s t:Int×Int):jF s t=jF t s:=by unfold jF;exact Prod.ext (by simp only;omega) (by simp only;omega)
theorem nF.told {l:List Rw}{next D:LI}(h:nF l n next)(O:t∈next)(M:∀x∈next,jW t x)(hn:n<(jT l).length)(R:gt (jT l) n=t)(hm:∀x,x∈next↔x=t\/x∈c)
  (s:∀x,x∈D↔x∈c\/∃j,j<n/\x=jF (gt (jT l) j) t):nF l (n+1) D:=by
 have N:∀x,x∈(jT l).take (n+1)↔x∈(jT l).take n\/x=t:=fun x=>by
  rw[iL (by omega),iL h.le];constructor
  ·rintro⟨j,A,e⟩
   by_cases hq:j=n
   ·right;rw[<- e,hq];exact R
   ·exact .inl ⟨j,by omega,e⟩
  ·rintro (⟨j,A,e⟩|e)
   ·exact⟨j,by omega,e⟩
   ·exact⟨n,by omega,by rw[e];exact R⟩
 have L:∀p∈(jT l).take n,jF p t∈D:=fun p hp=>by
  obtain⟨j,A,e⟩:=(iL h.le).1 hp;exact (s _).2 (.inr ⟨j,A,by rw[e]⟩)
 have H:∀x∈next,x=t\/x∈D:=fun x hx=>by
  rcases (hm x).1 hx with e|e
  ·exact .inl e
  ·exact .inr ((s x).2 (.inl e))
 refine⟨by omega,fun x hx=>?_,fun r hr=>?_,fun p hp q hq=>?_,fun p hp x hx=>?_⟩
 ·rcases (s x).1 hx with e|⟨j,A,e⟩
  ·exact h.inn x ((hm x).2 (.inr e))
  ·rw[e];exact Ff (iH (by omega)) (h.inn t O)
 ·rw[N]
  rcases h.rows r hr with e|e
  ·exact .inl (.inl e)
  ·rcases H _ e with e|e
   ·exact .inl (.inr e)
   ·exact .inr e
 ·rw[N]at hp hq ⊢
  rcases hp with hp|rfl
  ·rcases hq with hq|rfl
   ·rcases h.joins p hp q hq with e|e
    ·exact .inl (.inl e)
    ·rcases H _ e with e|e
     ·exact .inl (.inr e)
     ·exact .inr e
   ·exact .inr (L p hp)
  ·rcases hq with hq|rfl
   ·exact .inr (by rw[EA];exact L q hq)
   ·exact .inl (.inr (Dn _))
 ·have G:jW t x:=by
   rcases (s x).1 hx with e|⟨j,A,e⟩
   ·exact M x ((hm x).2 (.inr e))
   ·rw[e];exact Aw _ _
  rw[N]at hp
  rcases hp with hp|rfl
  ·exact n8 (h.late p hp t O) G
  ·exact G
theorem nF.stop {l:List Rw}(h:nF l n []):n=(jT l).length:=by
 by_cases hq:n=(jT l).length
 ·exact hq
 ·exfalso
  have hn:n<(jT l).length:=by have:=h.le;omega
  have s:=iH hn;rw[k6,qX]at s;obtain⟨_,p,hp,q,A,L,H⟩:=s;have G:jF p.1.2 q.1.2=gt (jT l) n:=Prod.ext L H;have h1:=(h.rows p hp).resolve_right (by simp);have h2:=(h.rows q A).resolve_right (by simp);have h3:=(h.joins _ h1 _ h2).resolve_right (by simp);rw[G]at h3;obtain⟨k,D,e⟩:=(iL h.le).1 h3;have h4:=Av (qL l) D hn;rw[e,Hx]at h4;cases h4
theorem ER {l:List Rw}{s:Int×Int}(hs:s∈jT l)(A:t∈jT l):(iE s.1 s.2 t.1 t.2,iF s.1 s.2 t.1 t.2)=jF s t:=by
 rw[k6]at hs A;unfold iE iF jF;rw[hs.1,A.1];rfl
open Go.Shelf
structure sZ (B m:Nat)(A A':fD):Prop where
 os:A'.os=A.os
 tape:A'.tape=A.tape
 output:A'.output=A.output
 size:A.heap.size<=A'.heap.size
 low:∀k,k<B->A'.heap[k]?=A.heap[k]?
 arr:∀q,cA A m=some q->A'.heap[q]?=A.heap[q]?
theorem sZ.below {A A':fD}(h:sG A.heap.size A A')(D:B<=A.heap.size)(ha:∀q,cA A m=some q->q<A.heap.size):sZ B m A A':=
 ⟨h.os,h.tape,h.output,h.size,fun k s=>h.block k (by omega),fun q e=>h.block q (ha q e)⟩
structure Dj (B m hb:Nat)(ap:Option Nat)(w:fD):Prop where
 mB:m<B
 hB:B<=hb
 wB:B<=w.heap.size
 hw:hb<w.heap.size
 ah:∀q,cA w hb=some q->B<=q/\q<w.heap.size/\q≠hb/\ap≠some q/\cA w m≠some q
 pp:∀q,ap=some q->B<=q/\q<w.heap.size/\q≠hb/\cA w m≠some q
 am:∀q,cA w m=some q->q<w.heap.size/\q≠hb
theorem Dj.below (h:Dj B m hb ap w)(s:sG w.heap.size w w1):Dj B m hb ap w1:=by
 have D:cA w1 hb=cA w hb:=aB (s.block hb h.hw);have A:cA w1 m=cA w m:=aB (s.block m (by have:=h.mB;have:=h.wB;omega));have hs:=s.size;refine⟨h.mB,h.hB,by have:=h.wB;omega,by have:=h.hw;omega,fun q e=>?_,fun q e=>?_,fun q e=>?_⟩
 ·rw[D]at e;rw[A];have:=h.ah q e;exact⟨this.1,by omega,this.2.2⟩
 ·rw[A];have:=h.pp q e;exact⟨this.1,by omega,this.2.2⟩
 ·rw[A]at e;have:=h.am q e;exact⟨by omega,this.2⟩
theorem Dj.bw (h:Dj B m hb ap w)(s:sG w.heap.size w w1):sZ B m w w1:=sZ.below s h.wB (fun q e=>(h.am q e).1)
theorem Dj.ed (h:Dj B m hb ap w)(hf:HF hb w w1):cA w1 m=cA w m:=by
 have:=h.mB;have:=h.hB;have:=h.wB;exact aB (hf.keep m (by omega) (by omega) (fun e=>by have:=h.ah m e;omega))
theorem Dj.hf (h:Dj B m hb ap w)(hf:HF hb w w1):Dj B m hb ap w1:=by
 have s:=h.ed hf;have hs:=hf.size;refine⟨h.mB,h.hB,by have:=h.wB;omega,by have:=h.hw;omega,fun q e=>?_,fun q e=>?_,fun q e=>?_⟩
 ·rw[s]
  rcases hf.arr with A|⟨D,A,h1,h2⟩
  ·rw[A]at e;have:=h.ah q e;exact⟨this.1,by omega,this.2.2⟩
  ·rw[A]at e;cases e;have:=h.hw;have:=h.wB;exact⟨by omega,h2,by omega,fun e=>by have:=(h.pp q e).2.1;omega,fun e=>by have:=(h.am q e).1;omega⟩
 ·rw[s];have:=h.pp q e;exact⟨this.1,by omega,this.2.2⟩
 ·rw[s]at e;have:=h.am q e;exact⟨by omega,this.2⟩
theorem Dj.cr (h:Dj B m hb ap w)(hf:HF hb w w1):sZ B m w w1:=by
 have:=h.hB;have:=h.wB;exact⟨hf.os,hf.tape,hf.output,hf.size,fun k A=>hf.keep k (by omega) (by omega) (fun e=>by have:=h.ah k e;omega),fun q e=>hf.keep q (h.am q e).1 (h.am q e).2 (fun s=>(h.ah q s).2.2.2.2 e)⟩
theorem Dj.dD (h:Dj B m hb v.ownBlock w)(hf:HF hb w w1)(ho:aW w B v l):aW w1 B v l:=
 dF ho fun q e=>hf.keep q (h.pp q e).2.1 (h.pp q e).2.2.1 (fun s=>(h.ah q s).2.2.2.1 e)
theorem Dj.dy {t:iC}(h:Dj B m hb ap w)(D:iK m w w1)(G:Bk w hb #[v] t):Bk w1 hb #[v] t/\Dj B m hb ap w1:=by
 have:=h.hB;have:=h.mB;have:=h.wB;have H:=D.bk G (by omega) (fun e=>(h.am hb e).2 rfl);have M:cA w1 hb=cA w hb:=by rw[hZ G,hZ H]
 have hs:=D.size;refine⟨H,h.mB,h.hB,by omega,by have:=h.hw;omega,fun q e=>?_,fun q e=>?_,fun q e=>?_⟩
 ·rw[M]at e;have h1:=h.ah q e;refine⟨h1.1,by omega,h1.2.2.1,h1.2.2.2.1,fun A=>?_⟩
  rcases D.arr with s|⟨L,s,h2,h3⟩
  ·rw[s]at A;exact h1.2.2.2.2 A
  ·rw[s]at A;cases A;omega
 ·have h1:=h.pp q e;refine⟨h1.1,by omega,h1.2.2.1,fun A=>?_⟩
  rcases D.arr with s|⟨L,s,h2,h3⟩
  ·rw[s]at A;exact h1.2.2.2 A
  ·rw[s]at A;cases A;omega
 ·rcases D.arr with s|⟨L,s,h2,h3⟩
  ·rw[s]at e;have:=h.am q e;exact⟨by omega,this.2⟩
  ·rw[s]at e;cases e;have:=h.hw;exact⟨h3,by omega⟩
theorem C7 (h:aW w B v l){q:Nat}(e:v.ownBlock=some q):∃c:Array fV,Bk w q c 32:=by
 rcases kE h with⟨rfl,_⟩|⟨g,cap,c,rfl,_,hb,_⟩
 ·cases e
 ·have:g=q:=by simpa[sH]using e
  subst this;exact⟨c,hb⟩
theorem Dj.dg (h:Dj B m hb v.ownBlock w)(s:iK m w w1)(ho:aW w B v l):aW w1 B v l:=
 dF ho fun q e=>by
  obtain⟨c,hb⟩:=C7 ho e;have h1:=h.pp q e;have:=h.mB;exact (s.bk hb (by omega) h1.2.2.2).trans hb.symm
theorem Dj.du (h:Dj B m hb ap w)(A:iK m w w1)(hp:Hp w hb l):Hp w1 hb l/\Dj B m hb ap w1:=by
 obtain⟨v,h1,h2,h3⟩:=hp;obtain⟨G,D⟩:=h.dy A h1;refine⟨⟨v,G,dF h2 fun q e=>?_,h3⟩,D⟩;obtain⟨c,s⟩:=C7 h2 e;have hq:=h.ah q (by rw[hZ h1];exact e);have:=h.mB;exact (A.bk s (by omega) hq.2.2.2.2).trans s.symm
theorem Dj.app {u:fV}(h:Dj B m hb v.ownBlock w)(hg:w.grownBy w1 v.ownBlock)(s:u.ownBlock=v.ownBlock\/(u.ownBlock=some w.heap.size/\w.heap.size<w1.heap.size)):sZ B m w w1/\Dj B m hb u.ownBlock w1/\w1.heap[hb]?=w.heap[hb]?/\(∀q,cA w hb=some q->w1.heap[q]?=w.heap[q]?):=by
 have:=h.hB;have:=h.mB;have:=h.wB;have:=h.hw;have hs:=hg.size;have G:w1.heap[hb]?=w.heap[hb]?:=hg.block hb h.hw (fun e=>(h.pp hb e.symm).2.2.1 rfl);have M:w1.heap[m]?=w.heap[m]?:=hg.block m (by omega) (fun e=>by have:=(h.pp m e.symm).1;omega);have N:=aB G;have D:=aB M;have L:∀q,cA w hb=some q->w1.heap[q]?=w.heap[q]?:=fun q e=>hg.block q (h.ah q e).2.1 (fun A=>(h.ah q e).2.2.2.1 A.symm);refine⟨⟨hg.os,hg.tape,hg.output,hg.size,fun k O=>hg.block k (by omega) (fun e=>by have:=(h.pp k e.symm).1;omega),fun q e=>hg.block q (h.am q e).1 (fun A=>(h.pp q A.symm).2.2.2 e)⟩,⟨h.mB,h.hB,by omega,by omega,fun q e=>?_,fun q e=>?_,fun q e=>?_⟩,G,L⟩
 ·rw[N]at e;rw[D];have h1:=h.ah q e;refine⟨h1.1,by omega,h1.2.2.1,fun A=>?_,h1.2.2.2.2⟩
  rcases s with s|⟨s,_⟩
  ·rw[s]at A;exact h1.2.2.2.1 A
  ·rw[s]at A;cases A;omega
 ·rw[D]
  rcases s with s|⟨s,H⟩
  ·rw[s]at e;have:=h.pp q e;exact⟨this.1,by omega,this.2.2⟩
  ·rw[s]at e;cases e;exact⟨by omega,H,by omega,fun e=>by have:=(h.am _ e).1;omega⟩
 ·rw[D]at e;have:=h.am q e;exact⟨by omega,this.2⟩
theorem Hp.app (h:Hp w hb l)(A:w1.heap[hb]?=w.heap[hb]?)(s:∀q,cA w hb=some q->w1.heap[q]?=w.heap[q]?):Hp w1 hb l:=by
 obtain⟨v,h1,h2,h3⟩:=h;refine⟨v,?_,dF h2 fun q e=>s q (by rw[hZ h1];exact e),h3⟩;unfold Bk;rw[A];exact h1
def D5 {α:Type}(m:Nat)(F:Fence)(n:Nat)(P:kR)(g:Nat)(lb:Array fV)(encs:α->Array fV)(S:List α->Prop)(Pf:List α->α->Prop)(N:Nat)(w:fD):Prop:=
 ∀(l:Nat)(J:List α->fD->Prop)(W:fD),sG w.heap.size w W->(∀s A A',J s A->sZ W.heap.size m A A'->J s A') ->
  (∀pre x W1,J pre W1->pre.length<N->Pf pre x->YieldAt F (n-1) P l (encs x) W1 fun e W'=>e=.returned (.bool true)/\J (pre++[x]) W'/\iK m W1 W') ->
  J [] W ->
  CallsIn F n P g (#[.func (.yield l) #[] #[]]++lb) W fun e W'=>(∃v,e=.returned v)/\∃xs,S xs/\J xs W'
section
variable {F:Fence}{n:Nat}{P:kR}
def kY (B:Nat)(r:gZ)(W:fD):Prop:=W.heap[B]?=some (.deferred (some []))/\W.heap[B+1]?=some (.loop r)
theorem kY.lt {r:gZ}(h:kY B r W):B+1<W.heap.size:=(Array.getElem?_eq_some_iff.1 h.2).1
theorem kY.new (w:fD)(r:gZ):kY w.heap.size r ((w.alloc (.deferred (some []))).alloc (.loop r)):=by
 have e:=fD.alloc_heap_new (w.alloc (.deferred (some []))) (.loop r);rw[fD.size_alloc]at e;exact⟨(sG.heap_alloc _ _ _ (by simp)).trans (fD.alloc_heap_new w _),e⟩
theorem kY.it {r:gZ}(h:kY B r W)(hi:sZ (B+1+1) m W W'):kY B r W':=⟨(hi.low _ (by omega)).trans h.1,(hi.low _ (by omega)).trans h.2⟩
theorem kY.kept {r:gZ}(h:kY B r W)(s:KeepsFrom B W W'):kY B r W':=⟨s.same _ _ (oO _) h.1 rfl,s.same _ _ (by omega) h.2 rfl⟩
theorem kY.put {r:gZ}(h:kY B r W)(s:gZ):kY B s (W.putObj (B+1) (.loop s)):=
 ⟨(fD.putObj_heap_other (by omega)).trans h.1,fD.putObj_heap_same h.lt⟩
theorem kY.kp {r:gZ}(h:kY B r W)(s:gZ)(hm:m<B):iK m W (W.putObj (B+1) (.loop s)):=iK.put W _ _ _ (by omega) h.2 rfl
theorem kY.own {A:Type}{r:gZ}{I:A->fD->Prop}{s:A}(h:kY B r W)(D:gZ)(G:kX B I)(hs:I s W):I s (W.putObj (B+1) (.loop D)):=G.putObj _ hs (by omega) h.2 rfl
theorem yX {α:Type}{g:Operand}{ps:Array Tmp}{assign body:Code}{Q:Exit->Act->fD->Prop}{a:Act}
  (x5:F.round=none) (h1:1<=n) {gf:Nat} {lb:Array fV} (hg:a.eval g=.func (.func gf) #[] lb) (y3:F.fn gf) (eg:∀args w,(callFunc gf args).run P w=.ok (.enter gf args) w)
  {H:α->Array fV} {S:List α->Prop} {Pf:List α->α->Prop} {N:Nat} {w0:fD} (x1:D5 m F (n-1) P gf lb H S Pf N w0) (V:m<w.heap.size)
  (h9:sG w0.heap.size w0 w) (x6:∀x,(H x).size=ps.size)
  (I:List α->fD->Prop) (R:kX w.heap.size I) (y2:∀s A A',I s A->sZ w.heap.size m A A'->I s A') (h0:I [] w) (Ax:α->Act->fD->Prop) (y4:∀x a',kX w.heap.size (fun (_:Unit) W=>Ax x a' W))
  (O:∀(l:Nat)(pre:List α)(x:α)(W:fD)(K:Act->fD->Prop),I pre W->(∀a' W',KeepsFrom w.heap.size W W'->iK m W W'->I pre W'->Ax x a' W'->K a' W') ->
   assign.wpIn (F.inRound l) (n-1-1) P (Exit.then K (fun _ _ _=>False)) { tmps:=(ps.zip (H x)).foldl (fun t (p,v)=>t.setIfInBounds p v) a.tmps,defers:=[] } W)
  (U:∀(l:Nat)(pre:List α)(x:α)(a':Act)(W:fD),w.heap.size<=l->(∃r,W.heap[l]?=some (.loop r))->I pre W->Ax x a' W->pre.length<N->Pf pre x->body.wpIn (F.inRound l) (n-1-1) P (ownPostG w.heap.size (iK m) I (fun _ _ _=>False) (pre++[x]) W) a' W)
  (T:∀(D:Nat)(xs:List α)(W:fD),w.heap.size<=D->S xs->I xs W->W.heap[D]?=some (.deferred (some []))->Q .normal { a with defers:={ target:= .collected D,args:=#[] }::a.defers } W):
  (Code.rangeFunc g ps assign body).wpIn F n P Q a w:=by
 apply wpIn_rangeFunc
 intro fn x9;rw[x5]
 let G:gZ:={ state:= .ready,pending:=none,fn,tmps:=a.tmps,params:=ps,assign,body,defers:=w.heap.size }
 have y1:=kY.new w G;have x8:=R.alloc (.loop G) (R.alloc (.deferred (some [])) h0);have y0:=h9.trans ((((wH _ w).alloc (oO _) (.deferred (some []))).alloc (by simp) (.loop G)).mono h9.size);have x4:((w.alloc (.deferred (some []))).alloc (.loop G)).heap.size=w.heap.size+1+1:=by simp
 refine⟨w.heap.size+1,_,_,{ target:= .fn (.func gf) lb,args:=#[.func (.yield (w.heap.size+1)) #[] #[]] },(w.alloc (.deferred (some []))).alloc (.loop G),gf,#[.func (.yield (w.heap.size+1)) #[] #[]]++lb,(w.alloc (.deferred (some []))).alloc (.loop G),run_enterLoop_outer _ _ _ _ _,?c1,?c2,?c3,fun _=>h1,?c4⟩
 case c1=>simp only[resolve,hg];simp[go_sem];rfl
 case c2=>intro f' Z;simp[Target.leads]at Z;subst Z;exact y3
 case c3=>simp[invoke,go_sem,eg]
 refine (x1 (w.heap.size+1) (fun pre W=>I pre W/\kY w.heap.size G W) _ y0 (fun s A A' hs hi=>?_) (fun pre x W hs x2 x7=>?_) ⟨x8,y1⟩).mono ?_
 ·rw[x4]at hi;exact⟨y2 s A A' hs.1 ⟨hi.os,hi.tape,hi.output,hi.size,fun k hk=>hi.low k (by omega),hi.arr⟩,hs.2.it hi⟩
 ·refine⟨fn,_,assign,body,run_yield (P:=P) (args:=H x) hs.2.2 (x6 x),roundIn_of_wpIn x9 (O _ pre x W _ hs.1 fun a' W2 k1 k2 hi hx=>?_)⟩;have L:=hs.2.kept k1;refine⟨_,run_beginRound L.2 rfl,?_⟩;have x0:=L.put { G with state:= .busy };refine wpIn_mono (U _ pre x a' _ (by omega) ⟨_,x0.2⟩ (L.own _ R hi) (L.own (s:=()) _ (y4 x a') hx) x2 x7) fun e a3 W3 hp=>?_
  match e,hp with
  | .normal,hp=>
   have M:=x0.kept hp.1;exact⟨_,_,run_endRound (P:=P) none M.2,rfl,⟨M.own _ R hp.2.2,M.put _⟩,k2.trans (((L.kp _ V).trans hp.2.1).trans (M.kp _ V))⟩
  | .ret,hp=>exact hp.2.elim
  | .exit _,hp=>exact hp.2.elim
  | .goto _,hp=>exact hp.2.elim
 ·rintro e W2 ⟨⟨v,rfl⟩,xs,hS,hi,hL⟩;exact⟨none,_,run_endLoop (P:=P) hL.2 (by simp[G]),T _ xs _ (oO _) hS (hL.own _ R hi) (hL.put _).1⟩
end
end Go.Proofs.YtbdpcngcbnoioaaGreatDoor
