import Derived.Test.YtbdpcngcbnoioaaGreatDoorGe1
import Derived.Test.YtbdpcngcbnoioaaGreatDoorGj1
import Derived.OrdersIn
import Derived.Test.YtbdpcngcbnoioaaGreatDoorGlk
import Derived.Test.YtbdpcngcbnoioaaGreatDoorGk2
set_option maxRecDepth 100000
set_option maxHeartbeats 16000000
namespace Go.Proofs.YtbdpcngcbnoioaaGreatDoor
open Go.RowKit
open _root_.Array renaming getElem?_eq_some_iff->fM,getD_eq_getD_getElem?->fQ,getElem?_eq_getElem->gD,getElem?_setIfInBounds->gM,replicate_zero->gQ,replicate_succ->gX,replicate->iM
open _root_.List renaming map_append->iP,take_length->jB,mem_of_getElem?->jO,filter_append->mO,length_map->nA,length_append->nB,length_take->nT,length_cons->nX,length_filter_le->oU,flatMap_append->oW,append_toArray->pU,size_toArray->qV,push_toArray->sD,append_assoc->tJ,cons_append->tK,nil_append->tL,length_nil->tM,map_map->tN
open Go renaming World->xU,Value->xV,Oper->AP,callsIn_wide->AW,CallsIn->C5,mem_ready->Df,KeepsFrom->E8,Fence->Fj,Program->Fl,IntKind->Ih,Addr->JK,grownBy_putObj'->M1,TypeId->Nk,KeepsOthers->Qz,Calls->RW
open Go.RowKit renaming Below->Re
open Go.RowKit.Below renaming refl->Rg,heap_setCell->Rh
open Go.Region renaming ready->Ri,wanted->Rk,binds->Rm
open _root_.Nat renaming mul_le_mul->Rn,le_trans->Ro,le_refl->Rp,reduceSub->Rq,reduceAdd->Rt
open Go.Proofs.Tryz renaming prog->Ru,func244->Rv
open Go.Value renaming ownBlock->Rx
open Go.CallsIn renaming mono->Ry,inRound->Rz
open Go.Fence renaming wide->S0
variable {G1:xU->xV->Prop}{G2:xU->Prop}{Q:Exit->Act->xU->Prop}{a:Act}{i j k m n:Nat}{u z0 z1 z16 z17 z18 z19 z2 z20 z3 z4 z42:xV}{w w0:xU}
section
attribute [local go_sem ↓] Go.wp_at_zero Go.wp_at_succ
theorem JD {s:List Rw}{x:Rw}(t:List Rw)(h:s[i]?=some x):cY (s.take (i+1)) t=cY (s.take i) t++iI x t:=by
 unfold cY;rw[fK h,oW];simp
theorem NN {t:List Rw}{x y:Rw}(h:t[k]?=some y)(e:x.1.1.1=y.1.1.1):iI x (t.take (k+1))=iI x (t.take k)++[(yK x.1 y.1,x.2*y.2)]:=by
 unfold iI;rw[fK h,mO,iP];simp[e]
theorem PM {t:List Rw}{x y:Rw}(h:t[k]?=some y)(e:x.1.1.1≠y.1.1.1):iI x (t.take (k+1))=iI x (t.take k):=by
 unfold iI;rw[fK h,mO,iP];simp[e]
theorem NM (x:Rw)(t:List Rw):(iI x t).length<=t.length:=by unfold iI;rw[nA];exact oU _ _
theorem Fb {a b:Int}(ha: -99999<=a/\a<=99999)(g: -99999<=b/\b<=99999): -10000000000<=a*b/\a*b<=10000000000:=by
 have h1:(a*b).natAbs<=99999*99999:=by rw[Int.natAbs_mul];exact Rn (by omega) (by omega)
 omega
theorem Kv {s t:List Rw}(hs:aZ s=true)(g:aZ t=true):aJ (cY s t)<=1600000000000000:=by
 have h1:=AF (oY hs) (oY g);omega
theorem N2 {s t:List Rw}(hs:aZ s=true)(g:aZ t=true):∀r∈cY s t,spOk r.1:=fun r hr=>by
 obtain⟨⟨h1,h2,h3,h4⟩,h5⟩:=Kw hs g r hr;rw[fH]at h5;unfold spOk nG;omega
theorem GY (v u:xV)(s t:List Rw)(w:xU)(h:Rs w v s)(h':Rs w u t)(hk:aZ s=true)(Y:aZ t=true):
  RW Ru 189 #[v,u] w fun e w'=>∃o:xV,e=.returned o/\aC w' w.heap.size o (aO aW (cY s t))/\Re w.heap.size w w':=by
 have oE:=lT w rfl;have y2:=aH (Rg _ w) (.cells #[] 55);have e7:=i6 hk;have v3:=i6 Y;have a2:Hid (∀(k:Nat)(K V A B D:Int),s[k]?=some (((K,V),(A,B)),D)->0<=K/\K<=3/\0<=V/\V<=99/\bM A B=true):=Bf hk;have a1:Hid (∀(k:Nat)(K V A B D:Int),t[k]?=some (((K,V),(A,B)),D)->0<=K/\K<=3/\0<=V/\V<=99/\bM A B=true):=Bf Y;have HL:Hid (∀i,(cY (s.take i) t).length<=160000):=fun i=>by
  have h1:=yT (s.take i) t;have h2:(s.take i).length*t.length<=400*400:=Rn (by rw[nT];omega) v3;omega
 have HA:Hid (aJ (cY s t)<=1600000000000000):=Kv hk Y;have a8:Hid (∀(k:Nat)(r:Rw),s[k]?=some r -> -99999<=r.2/\r.2<=99999):=fun k r hr=>mG (eZ hk (jO hr));have a7:Hid (∀(k:Nat)(r:Rw),t[k]?=some r -> -99999<=r.2/\r.2<=99999):=fun k r hr=>mG (eZ Y (jO hr));obtain⟨aS,cS,rfl,f3,w2,e5,h9⟩:=Rs.open h;obtain⟨aT,cT,rfl,f2,w1,d9,Z⟩:=Rs.open h';unfold maxLen at w2 w1;have a4:=(show Hid _ from h9);have a3:=(show Hid _ from Z);clear h9 Z h h' hk Y;go_enter Tryz.func189,Tryz.ntmps189;go_wp2_with fail
 go_loopw [5,6] (fun o i wr=>∃k:Nat,k<=s.length/\i=.int .i64 k/\aC wr w.heap.size o (cY (s.take k) t)/\Re w.heap.size w wr) (fun _ i _=>s.length-(intOf i).toNat)
 case atStart=>exact⟨0,by omega,rfl,by simpa[cY]using oE,y2⟩
 case round=>
  clear oE y2;obtain⟨i,f0,rfl,H,O⟩:=hrel;have HO:Hid (aC wr w.heap.size u5 (cY (s.take i) t)):=H;clear H
  by_cases w4:i<s.length
  ·obtain⟨g,off,K,V,A,B,D,rfl,hg,hr,c0,c1,c2,c3,c4⟩:=a4.out i w4;have ii:((i:Int)<(s.length:Int)):=by omega
   have HZ:=(show Hid _ from JD t hr);obtain⟨i1,i2,i3,i4,-⟩:=a2.out i _ _ _ _ _ hr;obtain⟨y7,y6⟩:=a8.out i _ hr;simp only at y7 y6;have f4:=HL.out i;clear hr;generalize hP:cY (s.take i) t=P at*;clear hP;go_wp2_with fail
   go_loopw [5,7] (fun o i wr=>∃k:Nat,k<=t.length/\i=.int .i64 k/\aC wr w.heap.size o (P++iI (((K,V),(A,B)),D) (t.take k))/\Re w.heap.size w wr) (fun _ i _=>t.length-(intOf i).toNat)
   case atStart=>exact⟨0,by omega,rfl,by have:=HO.out;simpa[iI]using this,O⟩
   case round=>
    clear HO O;obtain⟨k,e9,rfl,H,O⟩:=hrel
    by_cases v2:k<t.length
    ·obtain⟨R,G,K2,V2,A2,B2,D2,rfl,f1,S,p0,p1,p2,p3,p4⟩:=a3.out k v2;have ik:((k:Int)<(t.length:Int)):=by omega
     obtain⟨j1,j2,j3,j4,-⟩:=a1.out k _ _ _ _ _ S;obtain⟨y5,y4⟩:=a7.out k _ S;simp only at y5 y4;have f5:(P++iI (((K,V),(A,B)),D) (t.take k)).length<=500000:=by
      have:=NM (((K,V),(A,B)),D) (t.take k);rw[nB];simp at this;omega
     have HX:Hid (∀W,Re w.heap.size w W->(W.cell? ⟨g,off+i*5,none⟩=some (.int .i64 K)/\W.cell? ⟨g,off+i*5+1,none⟩=some (.int .i64 V)/\W.cell? ⟨g,off+i*5+2,none⟩=some (.int .i64 A)/\W.cell? ⟨g,off+i*5+3,none⟩=some (.int .i64 B)/\W.cell? ⟨g,off+i*5+4,none⟩=some (.int .i64 D)) /\
       W.cell? ⟨R,G+k*5,none⟩=some (.int .i64 K2)/\W.cell? ⟨R,G+k*5+1,none⟩=some (.int .i64 V2)/\W.cell? ⟨R,G+k*5+2,none⟩=some (.int .i64 A2)/\W.cell? ⟨R,G+k*5+3,none⟩=some (.int .i64 B2)/\W.cell? ⟨R,G+k*5+4,none⟩=some (.int .i64 D2)):=
      fun W M=>⟨⟨cB M c0,cB M c1,cB M c2,cB M c3,cB M c4⟩,cB M p0,cB M p1,cB M p2,cB M p3,cB M p4⟩
     obtain⟨⟨d0,-,-,-,-⟩,e0,-,-,-,-⟩:=HX.out _ O
     by_cases hK:K=K2
     ·subst hK;have HY:=(show Hid _ from NN (x:=(((K,V),(A,B)),D)) S rfl);have e6:=Fb ⟨y7,y6⟩ ⟨y5,y4⟩;have iw:Ih.i64.wrap (D*D2)=D*D2:=by rw[Ih.wrap_i64]<;>omega
      clear p0 p1 p2 p3 p4 S;simp only[yK]at HY;generalize x4:P++iI (((K,V),(A,B)),D) (t.take k)=U at*;have v6:Hid (P++iI (((K,V),(A,B)),D) (t.take k)=U):=x4;clear x4;have x6:Hid (aC wr w.heap.size u5 U):=H;clear H;go_wp2_with fail
      go_quiet (fail)
      have x3:Re w.heap.size w (wr.drewN nq):=dV O _;have w5:U.length<=2000000:=by omega
      have I:Re w.heap.size w (wr.drewN (nq+1))/\aC (wr.drewN (nq+1)) w.heap.size u5 U:=⟨dV O _,cC x6.out (dV (Rg _ _) _)⟩;have y8:Hid (∀W wc,(Re w.heap.size w W/\aC W w.heap.size u5 U)->Re W.heap.size W wc->(Re w.heap.size w wc/\aC wc w.heap.size u5 U)):=fun W wc M T=>⟨aG M.1 T,cC M.2 T⟩;have a6:Hid (∀(wc w7:xU)(ob:Obj),(Re w.heap.size w wc/\aC wc w.heap.size u5 U)->(wc.alloc ob).grownBy w7 u5.ownBlock->Re w.heap.size w w7):=fun wc w7 ob h1 h3=>
       Below.aU (aH h1.1 _) h3 (aH h1.1 ob).size (bU h1.2)
      have a5:Hid (∀(wc:xU)(ob:Obj),(Re w.heap.size w wc/\aC wc w.heap.size u5 U)->w.heap.size<=(wc.alloc ob).heap.size):=fun wc ob h1=>(aH h1.1 ob).size;clear d0 e0;obtain⟨⟨d0,d1,d2,d3,d4⟩,e0,e1,e2,e3,e4⟩:=HX.out _ x3;go_wp2_with fail
      go_region_held3 (fun W=>(W.cell? ⟨g,off+i*5,none⟩=some (.int .i64 K)/\W.cell? ⟨g,off+i*5+1,none⟩=some (.int .i64 V)/\W.cell? ⟨g,off+i*5+2,none⟩=some (.int .i64 A)/\W.cell? ⟨g,off+i*5+3,none⟩=some (.int .i64 B)/\W.cell? ⟨g,off+i*5+4,none⟩=some (.int .i64 D)) /\
        W.cell? ⟨R,G+k*5,none⟩=some (.int .i64 K)/\W.cell? ⟨R,G+k*5+1,none⟩=some (.int .i64 V2)/\W.cell? ⟨R,G+k*5+2,none⟩=some (.int .i64 A2)/\W.cell? ⟨R,G+k*5+3,none⟩=some (.int .i64 B2)/\W.cell? ⟨R,G+k*5+4,none⟩=some (.int .i64 D2))
       (first|exact HX.out _ y3|exact HX.out _ I.1|exact HX.out _ (aH I.1 _))
       (first
        | (go_at_call 229;with_reducible refine (Iw i3 i4 j3 j4 _).mono ?_;rintro e wc ⟨rfl,T⟩;replace I:=y8.out _ _ I T)
        | (go_at_call 130;with_reducible refine (n7 A B A2 B2 _).mono ?_;rintro e wc ⟨rfl,T⟩;replace I:=y8.out _ _ I T)
        | (refine JU _ (by rfl) _ _ (by rfl) w.heap.size _ U (by rfl) (I.2.alloc _) _ K (pv V V2) (k9 A B A2 B2) (kA A B A2 B2) (D*D2) (by rfl) (Bk.new _ _ rfl) w5 (a5.out _ _ I) ?_;intro g7 b8 w7 v1 x8 e8;have y3:=a6.out _ _ _ I x8))
      all_goals
       go_wp2_with fail;go_roundw
       case rel=>exact⟨k+1,by omega,by go_num,by rw[HY.out,<-tJ,v6.out];exact v1,y3⟩
       case measure=>simp[intOf];omega
     ·have HY:=(show Hid _ from PM (x:=(((K,V),(A,B)),D)) S hK);have nx:(K==K2)=false:=beq_eq_false_iff_ne.2 hK;have x6:Hid (aC wr w.heap.size u5 (P++iI (((K,V),(A,B)),D) (t.take k))):=H;clear p0 p1 p2 p3 p4 S H;go_wp2_with fail
      go_quiet (fail)
      have x3:Re w.heap.size w (wr.drewN nq):=dV O _;go_wp2_with fail;go_roundw
      case rel=>exact⟨k+1,by omega,by go_num,by rw[HY.out];exact cC x6.out (dV (Rg _ _) _),x3⟩
      case measure=>simp[intOf];omega
    ·obtain rfl:k=t.length:=by omega
     rw[jB]at H;rw[<- HZ.out]at H;go_wp2_with fail;go_roundw
     case rel=>exact⟨i+1,by omega,by go_num,H,O⟩
     case measure=>simp[intOf];omega
  ·obtain rfl:i=s.length:=by omega
   have y1:=HL.out s.length;have R1:Rs wr u5 (cY s t):=by have:=HO.out;rw[jB]at this y1;exact aC.rs this (by omega)
   rw[jB]at y1;have v9:=O.size;clear HO;go_wp2_with fail;refine (kY _ (cY s t) _ R1 (by omega) (by have:=HA.out;omega)).mono ?_;rintro e w3 ⟨o3,rfl,x1,w6⟩;have O3:Hid (aC w3 wr.heap.size o3 (aO aW (cY s t))):=x1;clear x1;go_wp2_with fail;go_ret;exact⟨_,rfl,cW O3.out v9,aG O w6⟩
open Go.Shelf
attribute [local go_sem] AP.semAt_some
def cD (W:xU)(m:Nat):Option Nat:=(W.cell? ⟨m,0,none⟩).bind Rx
structure j8 (m:Nat)(W W':xU):Prop where
 size:W.heap.size<=W'.heap.size
 keep:∀(k:Nat)(o:Obj),W.heap[k]?=some o->o.isCells=true->k≠m->cD W m≠some k->W'.heap[k]?=some o
 arr:cD W' m=cD W m\/∃q,cD W' m=some q/\W.heap.size<=q/\q<W'.heap.size
theorem j8.trans {A B C:xU}(h:j8 m A B)(k:j8 m B C):j8 m A C where
 size:=Ro h.size k.size
 keep i o hi ho hm ha:=by
  have H:=(fM.1 hi).1;refine k.keep i o (h.keep i o hi ho hm ha) ho hm ?_
  rcases h.arr with e|⟨q,e,hq,_⟩
  ·rw[e];exact ha
  ·rw[e];intro G;cases G;omega
 arr:=by
  rcases k.arr with e|⟨q,e,hq,g⟩
  ·rcases h.arr with s|⟨q,s,hq,g⟩
   ·exact .inl (e.trans s)
   ·exact .inr ⟨q,e.trans s,hq,Nat.lt_of_lt_of_le g k.size⟩
  ·exact .inr ⟨q,e,Ro h.size hq,g⟩
theorem aB {W W':xU}(h:W'.heap[m]?=W.heap[m]?):cD W' m=cD W m:=by
 unfold cD;rw[xU.cell?_of_block (w:=W) h]
theorem j8.put (W:xU)(l:Nat)(o s:Obj)(hm:m<l)(h:W.heap[l]?=some o)(ho:o.isCells=false):j8 m W (W.putObj l s):=by
 have hg:=M1 W l s;have hl:=(fM.1 h).1;refine⟨hg.size,fun k q g hq _ _=>?_,.inl (aB (hg.block m (by omega) (fun e=>by cases e;omega)))⟩;rw[hg.block k (fM.1 g).1 (fun e=>by cases e;rw[h]at g;cases g;rw[ho]at hq;cases hq)];exact g
theorem j8.bk {W W':xU}{c:Array xV}{t:Nk}(h:j8 m W W')(s:Bk W k c t)(g:k≠m)(ha:cD W m≠some k):Bk W' k c t:=h.keep k _ s rfl g ha
def Kc (w W:xU):Prop:=∀(k:Nat)(o:Obj),w.heap[k]?=some o->o.isCells=true->W.heap[k]?=some o
theorem Kc.aD {W:xU}(h:Re w.heap.size w W):Kc w W:=fun k o g _=>by rw[h.block k (fM.1 g).1];exact g
theorem Kc.step {W W':xU}(h:Kc w W)(s:Re W.heap.size W W'):Kc w W':=fun k o g ho=>by
 have h1:=h k o g ho;rw[s.block k (fM.1 h1).1];exact h1
theorem Kc.ei {W W':xU}(h:Kc w W)(s:j8 m W W')(hm:w.heap.size<=m)(ha:∀q,cD W m=some q->w.heap.size<=q):Kc w W':=fun k o g ho=>by
 have G:=(fM.1 g).1;exact s.keep k o (h k o g ho) ho (by omega) (fun e=>by have:=ha k e;omega)
theorem Kc.cell {W:xU}(h:Kc w W){g:Nat}{v:xV}(s:w.cell? ⟨g,i,none⟩=some v):W.cell? ⟨g,i,none⟩=some v:=by
 have G:=lC s;have e:w.heap[g]?=some w.heap[g]:=gD G;have ho:w.heap[g].isCells=true:=by
  unfold xU.cell? at s;simp only[e]at s
  revert s
  cases w.heap[g]<;>simp[Obj.isCells]
 rw[xU.cell?_of_block (w:=w) ((h g _ e ho).trans e.symm)];exact s
theorem j8.below {W W':xU}(h:Re W.heap.size W W')(hm:m<W.heap.size):j8 m W W':=
 ⟨h.size,fun k _ g _ _ _=>by rw[h.block k (fM.1 g).1];exact g,.inl (aB (h.block m hm))⟩
theorem j8.grow {W g:xU}{v:xV}{t:Nk}(s:Bk W m #[v] t)(hg:W.grownBy g v.ownBlock)(R:v.ownBlock≠some m)(S:u.ownBlock=v.ownBlock\/∃q,u.ownBlock=some q/\W.heap.size<=q/\q<g.heap.size):
  j8 m W (g.setCell ⟨m,0,none⟩ u):=by
 have hm:=s.lt;have e0:cD W m=v.ownBlock:=by unfold cD;rw[s.cell (i:=0) (v:=v) rfl];rfl
 have O:Bk g m #[v] t:=by
  unfold Bk;rw[hg.block m hm (fun e=>R e.symm)];exact s
 have M:=O.set 0 u;have T:cD (g.setCell ⟨m,0,none⟩ u) m=u.ownBlock:=by unfold cD;rw[M.cell (i:=0) (v:=u) (by simp)];rfl
 have G:(g.setCell ⟨m,0,none⟩ u).heap.size=g.heap.size:=by simp
 refine⟨by rw[G];exact hg.size,fun k o I _ H ha=>?_,?_⟩
 ·rw[Rh _ _ _ _ (show k≠(⟨m,0,none⟩:JK).block from H),hg.block k (fM.1 I).1 (fun e=>ha (by rw[e0,e]))];exact I
 ·rw[T,e0,G];exact S
def jL (x:Rw)(t:List Rw):List (Rw×Rw):=(t.filter fun y=>decide (x.1.1.1=y.1.1.1)).map fun y=>(x,y)
def tG (s t:List Rw):List (Rw×Rw):=s.flatMap fun x=>jL x t
theorem NB {s:List Rw}{x:Rw}(t:List Rw)(h:s[i]?=some x):tG (s.take (i+1)) t=tG (s.take i) t++jL x t:=by
 unfold tG;rw[fK h,oW];simp
theorem L9 {t:List Rw}{x y:Rw}(h:t[k]?=some y)(e:x.1.1.1=y.1.1.1):jL x (t.take (k+1))=jL x (t.take k)++[(x,y)]:=by
 unfold jL;rw[fK h,mO,iP];simp[e]
theorem NC {t:List Rw}{x y:Rw}(h:t[k]?=some y)(e:x.1.1.1≠y.1.1.1):jL x (t.take (k+1))=jL x (t.take k):=by
 unfold jL;rw[fK h,mO,iP];simp[e]
theorem DZ (x:Rw)(t:List Rw):(jL x t).length<=t.length:=by unfold jL;rw[nA];exact oU _ _
theorem PK (s t:List Rw):(tG s t).length<=s.length*t.length:=by
 induction s with
 | nil=>simp[tG]
 | cons x s ih=>
  show (jL x t++tG s t).length<=_
  have:=DZ x t;rw[nB,nX,Nat.add_mul];omega
def DO (p:Rw×Rw):Rw:=(yK p.1.1 p.2.1,p.1.2*p.2.2)
theorem NA (s t:List Rw):(tG s t).map DO=cY s t:=by
 unfold tG cY jL iI
 induction s with
 | nil=>rfl
 | cons x s ih=>simp only[List.flatMap_cons,iP,ih,tN];rfl
abbrev XP:={ p:Rw×Rw // dG p.1=true/\dG p.2=true/\p.1.1.1.1=p.2.1.1.1 }
abbrev Nv (r:Rw):xV:=rv r.1.1.1 r.1.1.2 r.1.2.1 r.1.2.2 r.2
abbrev Pn (z:XP):Array xV:=#[Nv z.1.1,Nv z.1.2]
theorem L1 (a b:Option JK)(n m s g:Nat)(w:xU):
  RW Ru 222 #[.slice a n s,.slice b m g] w fun e G=>e=.returned (.func (.func 244) #[] #[.pointer (some ⟨w.heap.size,0,none⟩),.pointer (some ⟨w.heap.size+1,0,none⟩)])/\G=(w.alloc (.cells #[.slice a n s] 28)).alloc (.cells #[.slice b m g] 28):=by
 go_enter Tryz.func222,Tryz.ntmps222;go_wp2_with fail;go_ret;exact⟨rfl,rfl⟩
attribute [local go_sem] AP.semAt_some
theorem L0 (lp b1 b2 m N:Nat)(a b:Option JK)(z7 U:Nat)(s t:List Rw)(J Jx:List XP->xU->Prop)(w W:xU)
  (hJ:∀pre A B,J pre A->Re A.heap.size A B->J pre B)
  (hY:∀pre z W,J pre W->pre.length<160000->YieldAt S0 (3-1) Ru lp (Pn z) W fun e W'=>
   (e=.returned (.bool true)/\J (pre++[z]) W'/\j8 m W W')\/(e=.returned (.bool false)/\Jx (pre++[z]) W'))
  (hk:aZ s=true) (z5:aZ t=true) (v7:Rs w (.slice a s.length z7) s) (v6:Rs w (.slice b t.length U) t) (a7:w.heap.size<=m) (g3:m<N) (v8:N<=W.heap.size) (G:Kc w W)
  (v4:Bk W b1 #[.slice a s.length z7] 28) (M:Bk W b2 #[.slice b t.length U] 28) (g9:b2<N) (b8:b2≠m) (v5:cD W m=none) (h0:J [] W):
  C5 S0 3 Ru 244 #[.func (.yield lp) #[] #[],.pointer (some ⟨b1,0,none⟩),.pointer (some ⟨b2,0,none⟩)] W fun e W'=>(∃v,e=.returned v) /\
   ((∃ys:List XP,ys.map (·.1)=tG s t/\J ys W')\/(∃pre,True/\Jx pre W')):=by
 have d0:=v4.cell (i:=0) (v:= .slice a s.length z7) rfl;have hl:=i6 hk;have b0:=i6 z5;have d8:Hid (∀(k:Nat)(r:Rw),s[k]?=some r->dG r=true):=fun k r hr=>eZ hk (jO hr);have d7:Hid (∀(k:Nat)(r:Rw),t[k]?=some r->dG r=true):=fun k r hr=>eZ z5 (jO hr);have d6:Hid (∀i,i<s.length->∀j,j<=t.length->∀x,(tG (s.take i) t++jL x (t.take j)).length<=159999+1/\(j<t.length->(tG (s.take i) t++jL x (t.take j)).length<160000)):=fun i hi j hj x=>by
  have h1:=PK (s.take i) t;have h2:=DZ x (t.take j);have h3:(s.take i).length*t.length<=399*400:=Rn (by rw[nT];omega) b0;rw[nT]at h2;rw[nB];omega
 obtain⟨a',c',e,hc,hm,hn,x5⟩:=Rs.open v7;cases e;obtain⟨a',c',e,g6,a9,g1,Y⟩:=Rs.open v6;cases e;unfold maxLen at hm a9;have HC:=(show Hid _ from x5);have HD:=(show Hid _ from Y);clear x5 Y v7 v6 hk z5;refine callsIn_of_wp Rv rfl trivial ?_ rfl;simp only[Tryz.ntmps244,qV,nX,tM,Rt,Rq,gX,gQ,sD,pU,tL,tK]
 gi_wp2
 gi_loopw [10] (fun i wr=>∃(k:Nat)(pre:List XP),k<=s.length/\i=.int .i64 k/\pre.map (·.1)=tG (s.take k) t/\J pre wr/\Kc w wr/\N<=wr.heap.size/\Bk wr b2 #[.slice b t.length U] 28/\(∀q,cD wr m=some q->N<=q/\q<wr.heap.size)) (fun i _=>s.length-(intOf i).toNat)
 case atStart=>exact⟨0,[],by omega,rfl,by simp[tG],h0,G,v8,M,fun q e=>by rw[v5]at e;cases e⟩
 case round=>
  clear d0 h0 G v8 M v4 v5;obtain⟨i,pre,g4,rfl,I,S,G,x9,M,T⟩:=hrel
  by_cases v2:i<s.length
  ·obtain⟨g,off,K,V,A,B,D,rfl,hg,hr,c0,c1,c2,c3,c4⟩:=HC.out i v2;have HR:=(show Hid _ from hr);have q0:=G.cell c0;have q1:=G.cell c1;have q2:=G.cell c2;have q3:=G.cell c3;have q4:=G.cell c4;have ii:((i:Int)<(s.length:Int)):=by omega
   have H:Re wr.heap.size wr (wr.alloc (.cells #[.int .i64 K,.int .i64 V,.int .i64 A,.int .i64 B,.int .i64 D] 55)):=aH (Rg _ _) _;have v9:Bk (wr.alloc (.cells #[.int .i64 K,.int .i64 V,.int .i64 A,.int .i64 B,.int .i64 D] 55)) wr.heap.size #[.int .i64 K,.int .i64 V,.int .i64 A,.int .i64 B,.int .i64 D] 55:=Bk.new _ _ rfl;have O:=M.keep H;have x6:=G.step H;have x7:=hJ _ _ _ S H;have e2:=O.cell (i:=0) (v:= .slice b t.length U) rfl;have R:∀q,cD (wr.alloc (.cells #[.int .i64 K,.int .i64 V,.int .i64 A,.int .i64 B,.int .i64 D] 55)) m=some q->N<=q/\q<(wr.alloc (.cells #[.int .i64 K,.int .i64 V,.int .i64 A,.int .i64 B,.int .i64 D] 55)).heap.size/\q≠wr.heap.size:=fun q e=>by
    rw[aB (H.block m (by omega))]at e;have:=T q e;refine⟨this.1,?_,by omega⟩;simp;omega
   have y5:N<=(wr.alloc (.cells #[.int .i64 K,.int .i64 V,.int .i64 A,.int .i64 B,.int .i64 D] 55)).heap.size:=by simp;omega
   have g7:N<=wr.heap.size:=x9;clear c0 c1 c2 c3 c4 hr M G S T H
   gi_wp2
   clear q0 q1 q2 q3 q4 e2 x9;generalize wr.heap.size=xb at*;generalize xU.alloc _ _=wx at*
   gi_loopw [16] (fun j wr=>∃(k:Nat)(pre:List XP),k<=t.length/\j=.int .i64 k/\pre.map (·.1)=tG (s.take i) t++jL (((K,V),(A,B)),D) (t.take k)/\J pre wr/\Kc w wr/\N<=wr.heap.size/\Bk wr b2 #[.slice b t.length U] 28/\Bk wr xb #[.int .i64 K,.int .i64 V,.int .i64 A,.int .i64 B,.int .i64 D] 55/\(∀q,cD wr m=some q->N<=q/\q<wr.heap.size/\q≠xb)) (fun j _=>t.length-(intOf j).toNat)
   case atStart=>exact⟨0,pre,by omega,rfl,by rw[I];simp[jL],x7,x6,y5,O,v9,R⟩
   case round=>
    clear x7 x6 y5 O v9 R I;obtain⟨k,pre,b3,rfl,I,S,G,x9,M,v3,T⟩:=hrel
    by_cases y8:k<t.length
    ·obtain⟨g2,f2,K2,V2,A2,B2,D2,rfl,g5,v1,c0,c1,c2,c3,c4⟩:=HD.out k y8;have z9:=(show Hid _ from v1);have q0:=G.cell c0;have q1:=G.cell c1;have q2:=G.cell c2;have q3:=G.cell c3;have q4:=G.cell c4;have ik:((k:Int)<(t.length:Int)):=by omega
     have H:Re wr.heap.size wr (wr.alloc (.cells #[.int .i64 K2,.int .i64 V2,.int .i64 A2,.int .i64 B2,.int .i64 D2] 55)):=aH (Rg _ _) _;have b9:Bk (wr.alloc (.cells #[.int .i64 K2,.int .i64 V2,.int .i64 A2,.int .i64 B2,.int .i64 D2] 55)) wr.heap.size #[.int .i64 K2,.int .i64 V2,.int .i64 A2,.int .i64 B2,.int .i64 D2] 55:=Bk.new _ _ rfl;have O:=M.keep H;have Z:=v3.keep H;have x6:=G.step H;have x7:=hJ _ _ _ S H;have R:∀q,cD (wr.alloc (.cells #[.int .i64 K2,.int .i64 V2,.int .i64 A2,.int .i64 B2,.int .i64 D2] 55)) m=some q->N<=q/\q<(wr.alloc (.cells #[.int .i64 K2,.int .i64 V2,.int .i64 A2,.int .i64 B2,.int .i64 D2] 55)).heap.size/\q≠xb:=fun q e=>by
      rw[aB (H.block m (by omega))]at e;have:=T q e;refine⟨this.1,?_,this.2.2⟩;simp;omega
     have y5:N<=(wr.alloc (.cells #[.int .i64 K2,.int .i64 V2,.int .i64 A2,.int .i64 B2,.int .i64 D2] 55)).heap.size:=by simp;omega
     have f3:=Z.lt;obtain⟨x0,x1,x2,x3,x4⟩:=Z.ag;obtain⟨y0,y1,y2,y3,y4⟩:=b9.ag;clear c0 c1 c2 c3 c4 v1 M G S T H v3
     by_cases hK:K=K2
     ·subst hK;have g8:=(d6.out i v2 k b3 (((K,V),(A,B)),D)).2 y8;have a8:pre.length<160000:=by have h1:=congrArg List.length I;simp only[nA]at h1;omega
      have HZ:Hid (jL (((K,V),(A,B)),D) (t.take (k+1))=jL (((K,V),(A,B)),D) (t.take k)++[((((K,V),(A,B)),D),(((K,V2),(A2,B2)),D2))]):=L9 z9.out rfl;have y7:=d8.out i _ HR.out;have y6:=d7.out k _ z9.out;obtain⟨fn,tmps,assign,body,hy,hR⟩:=hY pre ⟨((((K,V),(A,B)),D),(((K,V2),(A2,B2)),D2)),y7,y6,rfl⟩ _ x7 a8
      gi_wp2
      refine hR.mono ?_;rintro e W3 (⟨rfl,b5,h9⟩|⟨rfl,a1⟩)
      ·have w8:=h9.bk O b8 (fun e=>by have:=R _ e;omega);have w7:=h9.bk Z (by omega) (fun e=>(R _ e).2.2 rfl);have b4:=x6.ei h9 a7 (fun q e=>by have:=R q e;omega);have g0:=h9.size;have b7:∀q,cD W3 m=some q->N<=q/\q<W3.heap.size/\q≠xb:=fun q e=>by
        rcases h9.arr with e1|⟨q',e1,h1,h2⟩
        ·rw[e1]at e;have:=R q e;exact⟨this.1,by omega,this.2.2⟩
        ·rw[e1]at e;cases e;exact⟨by omega,h2,by omega⟩
       clear hR hy x0 x1 x2 x3 x4 y0 y1 y2 y3 y4 q0 q1 q2 q3 q4
       gi_wp2
       go_roundw
       case rel=>exact⟨k+1,pre++[⟨((((K,V),(A,B)),D),(((K,V2),(A2,B2)),D2)),y7,y6,rfl⟩],by omega,by go_num,by rw[HZ.out,iP,I,tJ];rfl,b5,b4,by omega,w8,w7,b7⟩
       case measure=>simp[intOf];omega
      ·clear hR hy
       gi_wp2
       refine bodyPost_ret (results_none rfl _ _ _) rfl ?_;exact⟨⟨_,rfl⟩,.inr ⟨_,trivial,a1⟩⟩
     ·have HZ:Hid (jL (((K,V),(A,B)),D) (t.take (k+1))=jL (((K,V),(A,B)),D) (t.take k)):=NC z9.out hK;have nx:(K==K2)=false:=beq_eq_false_iff_ne.2 hK
      gi_wp2
      refine⟨fun _ h=>(by cases h),?_⟩
      gi_wp2
      go_roundw
      case rel=>exact⟨k+1,pre,by omega,by go_num,by rw[HZ.out];exact I,x7,x6,y5,O,Z,R⟩
      case measure=>simp[intOf];omega
    ·obtain rfl:k=t.length:=by omega
     gi_wp2
     go_roundw
     case rel=>exact⟨i+1,pre,by omega,by go_num,by rw[I,jB,<-NB t HR.out],S,G,x9,M,fun q e=>⟨(T q e).1,(T q e).2.1⟩⟩
     case measure=>simp[intOf];omega
  ·obtain rfl:i=s.length:=by omega
   gi_wp2
   go_end0
   exact⟨⟨_,rfl⟩,.inl ⟨pre,by rw[I,jB],S⟩⟩
theorem Gt (b1 b2 m:Nat)(a b:Option JK)(H G:Nat)(s t:List Rw)(w w0:xU)(hk:aZ s=true)(O:aZ t=true)(U:Rs w (.slice a s.length H) s)(T:Rs w (.slice b t.length G) t)
  (M:w.heap.size<=m) (hm:m<w0.heap.size) (Y:Kc w w0) (R:Bk w0 b1 #[.slice a s.length H] 28) (I:Bk w0 b2 #[.slice b t.length G] 28) (Z:b2≠m) (S:cD w0 m=none):
  SeqStopsK S0 3 Ru 244 #[.pointer (some ⟨b1,0,none⟩),.pointer (some ⟨b2,0,none⟩)] Pn (j8 m) (fun ys=>ys.map (·.1)=tG s t) (fun _=>True) 160000 w0:=
 fun lp J Jx W g hJ _ hY h0=>
  L0 lp b1 b2 m w0.heap.size a b H G s t J Jx w W (fun pre A B h hb=>hJ pre A B none h (A1 hb) (fun r e=>by cases e)) hY hk O U T M hm g.size (Y.step g)
   (R.keep g) (I.keep g) I.lt Z (by rw[aB (g.block m hm)];exact S) h0
theorem H9 {F:Fj}{P:Fl}{G:Region.Mode}{ops:Array AP}(Inv:Array Bool->Act->xU->Prop)
  (hg:∀(i:Nat)(o:AP),ops[i]?=some o->o.guard=none)
  (hs:∀L a w,Inv L a w->L.size=ops.size)
  (hstep:∀L a w (i:Nat) (o:AP),Inv L a w->i∈Ri G ops L->ops[i]?=some o->o.wpIn F n P a w (fun a' O=>Inv (L.setIfInBounds i true) a' O) Q)
  (hend:∀L a w,Inv L a w->Ri G ops L=[]->Q .normal a w):
  ∀(g:Nat)(L:Array Bool)(a:Act)(w:xU),uR L<=g->Inv L a w->wpAnyIn F n P G ops Q g L a w:=by
 have I:∀L a w i,Inv L a w->i∈Ri G ops L->L[i]?=some false:=fun L a w i s hi=>by
  obtain⟨h1,o,ho,_⟩:=Df.1 hi;have M:i<L.size:=by rw[hs L a w s];exact (fM.1 ho).1
  rw[gD M];simp[M]at h1;rw[h1]
 intro g
 induction g with
 | zero=>
  intro L a w T s;have H:Ri G ops L=[]:=by
   cases hr:Ri G ops L with
   | nil=>rfl
   | cons i r=>
    have:=IJ (I L a w i s (by rw[hr];simp));omega
  exact⟨H,hend L a w s H⟩
 | succ g ih=>
  intro L a w T s;refine⟨fun H=>hend L a w s H,fun i hi=>?_⟩;obtain⟨_,o,ho,_⟩:=Df.1 hi;have h1:=hstep L a w i o s hi ho;have S:Rk o (yielded ops a.tmps)=true:=by simp[Rk,hg i o ho]
  unfold wpOpIn;rw[ho];simp only[S,if_true];refine AP.wpIn_mono (fun a' O R=>?_) h1;have:=zQ (I L a w i s hi);exact ih _ a' O (by omega) R
theorem Bo {F:Fj}{P:Fl}{ops:Array AP}{id:Nat}(hm:P.follows .mixedOrders=true)(Inv:Array Bool->Act->xU->Prop)
  (hg:∀(i:Nat)(o:AP),ops[i]?=some o->o.guard=none)
  (hs:∀L a w,Inv L a w->L.size=ops.size)
  (h0:Inv (iM ops.size false) a w.drew)
  (hstep:∀L a w (i:Nat) (o:AP),Inv L a w->i∈Ri .any ops L->ops[i]?=some o->o.wpIn F n P a w (fun a' g=>Inv (L.setIfInBounds i true) a' g) Q)
  (hend:∀L a w,Inv L a w->Ri .any ops L=[]->Q .normal a w):(Code.region id ops true).wpIn F n P Q a w:=
 wpIn_region_any hm (H9 Inv hg hs hstep hend ops.size _ _ _ (by rw[Cc];exact Rp _) h0)
theorem AN {l:Nat}{P:Fl}{o:AP}{W W':xU}{K:Act->xU->Prop}(s x:Operand)(t:Nk)(ho:o.op=.call { callee:= .builtin .append,args:=#[s,x],argTypes:=#[t,t] })
  {v g:xV} (hs:a.eval s=v) (hx:a.eval x=g) (hr:(Builtin.append_ #[t,t] o.type #[v,g]).run P W=.ok u W') (h:K (a.put o.dst u) W'):o.wpIn (S0.inRound l) n P a W K Q:=by
 refine⟨fun f _=>trivial,?_⟩;rw[AP.semAt_eq _ _ _ (fun c e=>by rw[ho]at e;cases e)];unfold execOp;simp[ho,resolve,invoke,builtin,hs,hx,hr,Result.andThen];exact h
def DC (ops:Array AP)(L:Array Bool):Prop:=∀(i:Nat)(o:AP),ops[i]?=some o->L.getD i false=true->∀e∈o.after,Rm .any e=true->L.getD e.on false=true
theorem MV {L:Array Bool}(h:(L.setIfInBounds i true).getD j false=true):j=i\/L.getD j false=true:=by
 by_cases e:j=i
 ·exact .inl e
 ·right
  simp only[fQ,gM,if_neg (Ne.symm e)]at h ⊢;exact h
theorem gU {L:Array Bool}(h:L.getD j false=true):(L.setIfInBounds i true).getD j false=true:=by
 simp only[fQ,gM]at h ⊢
 by_cases e:i=j
 ·subst e
  by_cases hl:i<L.size
  ·simp[hl]
  ·rw[Array.getElem?_eq_none (by omega)]at h;simp at h
 ·rw[if_neg e];exact h
theorem tI {F:Fj}{P:Fl}{ops:Array AP}{id:Nat}(hm:P.follows .mixedOrders=true)(Inv:Array Bool->Act->xU->Prop)
  (hg:∀(i:Nat)(o:AP),ops[i]?=some o->o.guard=none)
  (hs:∀L a w,Inv L a w->L.size=ops.size)
  (h0:Inv (iM ops.size false) a w.drew)
  (hstep:∀L a w (i:Nat) (o:AP),DC ops L->Inv L a w->i∈Ri .any ops L->ops[i]?=some o->o.wpIn F n P a w (fun a' I=>Inv (L.setIfInBounds i true) a' I) Q)
  (hend:∀L a w,Inv L a w->Ri .any ops L=[]->Q .normal a w):(Code.region id ops true).wpIn F n P Q a w:=by
 refine Bo hm (fun L a w=>DC ops L/\Inv L a w) hg (fun L a w h=>hs L a w h.2) ⟨fun i o _ e=>by
  simp only[fQ,Array.getElem?_replicate]at e
  split at e<;>simp at e,h0⟩ (fun L a w i o H hi ho=>?_) (fun L a w h hr=>hend L a w h.2 hr)
 obtain⟨_,R,g,G⟩:=Df.1 hi;rw[ho]at g;cases g;refine AP.wpIn_mono (fun a' I h=>⟨fun j q hq s e M O=>?_,h⟩) (hstep L a w i o H.1 H.2 hi ho)
 rcases MV s with rfl|s
 ·rw[ho]at hq;cases hq;exact gU (G e M O)
 ·exact gU (H.1 j q hq s e M O)
attribute [local go_sem] AP.semAt_some
structure eA (b1 b2:Nat)(v:xV)(K V A B D V2 A2 B2 D2 JA JB:Int)(L:Array Bool)(W:xU)(t21 t22 t23 t24 t25 t26 t27 t28 t29 t30 t31 t32 t33 t34 t35 t36 t37 t38 t39 t40 t41:xV):Prop where
 s0:L.getD 0 false=true->t21=v
 s1:L.getD 1 false=true->t22=.pointer (some ⟨b1,0,none⟩)
 s2:L.getD 2 false=true->t23=.int .i64 K
 s3:L.getD 3 false=true->t24=.pointer (some ⟨b1,1,none⟩)
 s4:L.getD 4 false=true->t25=.int .i64 V
 s5:L.getD 5 false=true->t26=.pointer (some ⟨b2,1,none⟩)
 s6:L.getD 6 false=true->t27=.int .i64 V2
 s7:L.getD 7 false=true->t28=.int .i64 (pv V V2)
 s8:L.getD 8 false=true->t29=.pointer (some ⟨b1,2,none⟩)
 s9:L.getD 9 false=true->t30=tv A B
 s10:L.getD 10 false=true->t31=.pointer (some ⟨b2,2,none⟩)
 s11:L.getD 11 false=true->t32=tv A2 B2
 s12:L.getD 12 false=true->t33=tv JA JB
 s13:L.getD 13 false=true->t34=.pointer (some ⟨b1,4,none⟩)
 s14:L.getD 14 false=true->t35=.int .i64 D
 s15:L.getD 15 false=true->t36=.pointer (some ⟨b2,4,none⟩)
 s16:L.getD 16 false=true->t37=.int .i64 D2
 s17:L.getD 17 false=true->t38=.int .i64 (D*D2)
 s18:L.getD 18 false=true->t39=rv K (pv V V2) JA JB (D*D2)
 s19:L.getD 19 false=true->∃g:Nat,t40=.slice (some ⟨g,0,none⟩) 1 1/\Bk W g #[.int .i64 K,.int .i64 (pv V V2),.int .i64 JA,.int .i64 JB,.int .i64 (D*D2)] 55
variable {b1 b2:Nat}{v:xV}{K V A B D V2 A2 B2 D2 JA JB:Int}{L:Array Bool}{W W':xU}{t21 t22 t23 t24 t25 t26 t27 t28 t29 t30 t31 t32 t33 t34 t35 t36 t37 t38 t39 t40 t41:xV}
theorem eA.keep (h:eA b1 b2 v K V A B D V2 A2 B2 D2 JA JB L W t21 t22 t23 t24 t25 t26 t27 t28 t29 t30 t31 t32 t33 t34 t35 t36 t37 t38 t39 t40 t41)(s:Re W.heap.size W W'):eA b1 b2 v K V A B D V2 A2 B2 D2 JA JB L W' t21 t22 t23 t24 t25 t26 t27 t28 t29 t30 t31 t32 t33 t34 t35 t36 t37 t38 t39 t40 t41 where
 s0:=h.s0
 s1:=h.s1
 s2:=h.s2
 s3:=h.s3
 s4:=h.s4
 s5:=h.s5
 s6:=h.s6
 s7:=h.s7
 s8:=h.s8
 s9:=h.s9
 s10:=h.s10
 s11:=h.s11
 s12:=h.s12
 s13:=h.s13
 s14:=h.s14
 s15:=h.s15
 s16:=h.s16
 s17:=h.s17
 s18:=h.s18
 s19:=fun e=>by obtain⟨g,h1,h2⟩:=h.s19 e;exact⟨g,h1,h2.keep s⟩
theorem eA.aw (h:eA b1 b2 v K V A B D V2 A2 B2 D2 JA JB L W t21 t22 t23 t24 t25 t26 t27 t28 t29 t30 t31 t32 t33 t34 t35 t36 t37 t38 t39 t40 t41)(g:u=v):eA b1 b2 v K V A B D V2 A2 B2 D2 JA JB (L.setIfInBounds 0 true) W u t22 t23 t24 t25 t26 t27 t28 t29 t30 t31 t32 t33 t34 t35 t36 t37 t38 t39 t40 t41:=by
 have s:=h;cases s;constructor
 case s0=>exact fun _=>g
 all_goals (intro e;replace e:=gS e;first|solve_by_elim|exact gU (by solve_by_elim))
theorem eA.au (h:eA b1 b2 v K V A B D V2 A2 B2 D2 JA JB L W t21 t22 t23 t24 t25 t26 t27 t28 t29 t30 t31 t32 t33 t34 t35 t36 t37 t38 t39 t40 t41)(g:u=.pointer (some ⟨b1,0,none⟩)):eA b1 b2 v K V A B D V2 A2 B2 D2 JA JB (L.setIfInBounds 1 true) W t21 u t23 t24 t25 t26 t27 t28 t29 t30 t31 t32 t33 t34 t35 t36 t37 t38 t39 t40 t41:=by
 have s:=h;cases s;constructor
 case s1=>exact fun _=>g
 all_goals (intro e;replace e:=gS e;first|solve_by_elim|exact gU (by solve_by_elim))
theorem eA.ar (h:eA b1 b2 v K V A B D V2 A2 B2 D2 JA JB L W t21 t22 t23 t24 t25 t26 t27 t28 t29 t30 t31 t32 t33 t34 t35 t36 t37 t38 t39 t40 t41)(g:u=.int .i64 K):eA b1 b2 v K V A B D V2 A2 B2 D2 JA JB (L.setIfInBounds 2 true) W t21 t22 u t24 t25 t26 t27 t28 t29 t30 t31 t32 t33 t34 t35 t36 t37 t38 t39 t40 t41:=by
 have s:=h;cases s;constructor
 case s2=>exact fun _=>g
 all_goals (intro e;replace e:=gS e;first|solve_by_elim|exact gU (by solve_by_elim))
theorem eA.aq (h:eA b1 b2 v K V A B D V2 A2 B2 D2 JA JB L W t21 t22 t23 t24 t25 t26 t27 t28 t29 t30 t31 t32 t33 t34 t35 t36 t37 t38 t39 t40 t41)(g:u=.pointer (some ⟨b1,1,none⟩)):eA b1 b2 v K V A B D V2 A2 B2 D2 JA JB (L.setIfInBounds 3 true) W t21 t22 t23 u t25 t26 t27 t28 t29 t30 t31 t32 t33 t34 t35 t36 t37 t38 t39 t40 t41:=by
 have s:=h;cases s;constructor
 case s3=>exact fun _=>g
 all_goals (intro e;replace e:=gS e;first|solve_by_elim|exact gU (by solve_by_elim))
theorem eA.be (h:eA b1 b2 v K V A B D V2 A2 B2 D2 JA JB L W t21 t22 t23 t24 t25 t26 t27 t28 t29 t30 t31 t32 t33 t34 t35 t36 t37 t38 t39 t40 t41)(g:u=.int .i64 V):eA b1 b2 v K V A B D V2 A2 B2 D2 JA JB (L.setIfInBounds 4 true) W t21 t22 t23 t24 u t26 t27 t28 t29 t30 t31 t32 t33 t34 t35 t36 t37 t38 t39 t40 t41:=by
 have s:=h;cases s;constructor
 case s4=>exact fun _=>g
 all_goals (intro e;replace e:=gS e;first|solve_by_elim|exact gU (by solve_by_elim))
theorem eA.cb (h:eA b1 b2 v K V A B D V2 A2 B2 D2 JA JB L W t21 t22 t23 t24 t25 t26 t27 t28 t29 t30 t31 t32 t33 t34 t35 t36 t37 t38 t39 t40 t41)(g:u=.pointer (some ⟨b2,1,none⟩)):eA b1 b2 v K V A B D V2 A2 B2 D2 JA JB (L.setIfInBounds 5 true) W t21 t22 t23 t24 t25 u t27 t28 t29 t30 t31 t32 t33 t34 t35 t36 t37 t38 t39 t40 t41:=by
 have s:=h;cases s;constructor
 case s5=>exact fun _=>g
 all_goals (intro e;replace e:=gS e;first|solve_by_elim|exact gU (by solve_by_elim))
theorem eA.ca (h:eA b1 b2 v K V A B D V2 A2 B2 D2 JA JB L W t21 t22 t23 t24 t25 t26 t27 t28 t29 t30 t31 t32 t33 t34 t35 t36 t37 t38 t39 t40 t41)(g:u=.int .i64 V2):eA b1 b2 v K V A B D V2 A2 B2 D2 JA JB (L.setIfInBounds 6 true) W t21 t22 t23 t24 t25 t26 u t28 t29 t30 t31 t32 t33 t34 t35 t36 t37 t38 t39 t40 t41:=by
 have s:=h;cases s;constructor
 case s6=>exact fun _=>g
 all_goals (intro e;replace e:=gS e;first|solve_by_elim|exact gU (by solve_by_elim))
theorem eA.cZ (h:eA b1 b2 v K V A B D V2 A2 B2 D2 JA JB L W t21 t22 t23 t24 t25 t26 t27 t28 t29 t30 t31 t32 t33 t34 t35 t36 t37 t38 t39 t40 t41)(g:u=.int .i64 (pv V V2)):eA b1 b2 v K V A B D V2 A2 B2 D2 JA JB (L.setIfInBounds 7 true) W t21 t22 t23 t24 t25 t26 t27 u t29 t30 t31 t32 t33 t34 t35 t36 t37 t38 t39 t40 t41:=by
 have s:=h;cases s;constructor
 case s7=>exact fun _=>g
 all_goals (intro e;replace e:=gS e;first|solve_by_elim|exact gU (by solve_by_elim))
theorem eA.cN (h:eA b1 b2 v K V A B D V2 A2 B2 D2 JA JB L W t21 t22 t23 t24 t25 t26 t27 t28 t29 t30 t31 t32 t33 t34 t35 t36 t37 t38 t39 t40 t41)(g:u=.pointer (some ⟨b1,2,none⟩)):eA b1 b2 v K V A B D V2 A2 B2 D2 JA JB (L.setIfInBounds 8 true) W t21 t22 t23 t24 t25 t26 t27 t28 u t30 t31 t32 t33 t34 t35 t36 t37 t38 t39 t40 t41:=by
 have s:=h;cases s;constructor
 case s8=>exact fun _=>g
 all_goals (intro e;replace e:=gS e;first|solve_by_elim|exact gU (by solve_by_elim))
theorem eA.cg (h:eA b1 b2 v K V A B D V2 A2 B2 D2 JA JB L W t21 t22 t23 t24 t25 t26 t27 t28 t29 t30 t31 t32 t33 t34 t35 t36 t37 t38 t39 t40 t41)(g:u=tv A B):eA b1 b2 v K V A B D V2 A2 B2 D2 JA JB (L.setIfInBounds 9 true) W t21 t22 t23 t24 t25 t26 t27 t28 t29 u t31 t32 t33 t34 t35 t36 t37 t38 t39 t40 t41:=by
 have s:=h;cases s;constructor
 case s9=>exact fun _=>g
 all_goals (intro e;replace e:=gS e;first|solve_by_elim|exact gU (by solve_by_elim))
theorem eA.bQ (h:eA b1 b2 v K V A B D V2 A2 B2 D2 JA JB L W t21 t22 t23 t24 t25 t26 t27 t28 t29 t30 t31 t32 t33 t34 t35 t36 t37 t38 t39 t40 t41)(g:u=.pointer (some ⟨b2,2,none⟩)):eA b1 b2 v K V A B D V2 A2 B2 D2 JA JB (L.setIfInBounds 10 true) W t21 t22 t23 t24 t25 t26 t27 t28 t29 t30 u t32 t33 t34 t35 t36 t37 t38 t39 t40 t41:=by
 have s:=h;cases s;constructor
 case s10=>exact fun _=>g
 all_goals (intro e;replace e:=gS e;first|solve_by_elim|exact gU (by solve_by_elim))
theorem eA.bL (h:eA b1 b2 v K V A B D V2 A2 B2 D2 JA JB L W t21 t22 t23 t24 t25 t26 t27 t28 t29 t30 t31 t32 t33 t34 t35 t36 t37 t38 t39 t40 t41)(g:u=tv A2 B2):eA b1 b2 v K V A B D V2 A2 B2 D2 JA JB (L.setIfInBounds 11 true) W t21 t22 t23 t24 t25 t26 t27 t28 t29 t30 t31 u t33 t34 t35 t36 t37 t38 t39 t40 t41:=by
 have s:=h;cases s;constructor
 case s11=>exact fun _=>g
 all_goals (intro e;replace e:=gS e;first|solve_by_elim|exact gU (by solve_by_elim))
theorem eA.az (h:eA b1 b2 v K V A B D V2 A2 B2 D2 JA JB L W t21 t22 t23 t24 t25 t26 t27 t28 t29 t30 t31 t32 t33 t34 t35 t36 t37 t38 t39 t40 t41)(g:u=tv JA JB):eA b1 b2 v K V A B D V2 A2 B2 D2 JA JB (L.setIfInBounds 12 true) W t21 t22 t23 t24 t25 t26 t27 t28 t29 t30 t31 t32 u t34 t35 t36 t37 t38 t39 t40 t41:=by
 have s:=h;cases s;constructor
 case s12=>exact fun _=>g
 all_goals (intro e;replace e:=gS e;first|solve_by_elim|exact gU (by solve_by_elim))
theorem eA.bu (h:eA b1 b2 v K V A B D V2 A2 B2 D2 JA JB L W t21 t22 t23 t24 t25 t26 t27 t28 t29 t30 t31 t32 t33 t34 t35 t36 t37 t38 t39 t40 t41)(g:u=.pointer (some ⟨b1,4,none⟩)):eA b1 b2 v K V A B D V2 A2 B2 D2 JA JB (L.setIfInBounds 13 true) W t21 t22 t23 t24 t25 t26 t27 t28 t29 t30 t31 t32 t33 u t35 t36 t37 t38 t39 t40 t41:=by
 have s:=h;cases s;constructor
 case s13=>exact fun _=>g
 all_goals (intro e;replace e:=gS e;first|solve_by_elim|exact gU (by solve_by_elim))
theorem eA.cq (h:eA b1 b2 v K V A B D V2 A2 B2 D2 JA JB L W t21 t22 t23 t24 t25 t26 t27 t28 t29 t30 t31 t32 t33 t34 t35 t36 t37 t38 t39 t40 t41)(g:u=.int .i64 D):eA b1 b2 v K V A B D V2 A2 B2 D2 JA JB (L.setIfInBounds 14 true) W t21 t22 t23 t24 t25 t26 t27 t28 t29 t30 t31 t32 t33 t34 u t36 t37 t38 t39 t40 t41:=by
 have s:=h;cases s;constructor
 case s14=>exact fun _=>g
 all_goals (intro e;replace e:=gS e;first|solve_by_elim|exact gU (by solve_by_elim))
theorem eA.ct (h:eA b1 b2 v K V A B D V2 A2 B2 D2 JA JB L W t21 t22 t23 t24 t25 t26 t27 t28 t29 t30 t31 t32 t33 t34 t35 t36 t37 t38 t39 t40 t41)(g:u=.pointer (some ⟨b2,4,none⟩)):eA b1 b2 v K V A B D V2 A2 B2 D2 JA JB (L.setIfInBounds 15 true) W t21 t22 t23 t24 t25 t26 t27 t28 t29 t30 t31 t32 t33 t34 t35 u t37 t38 t39 t40 t41:=by
 have s:=h;cases s;constructor
 case s15=>exact fun _=>g
 all_goals (intro e;replace e:=gS e;first|solve_by_elim|exact gU (by solve_by_elim))
theorem eA.dT (h:eA b1 b2 v K V A B D V2 A2 B2 D2 JA JB L W t21 t22 t23 t24 t25 t26 t27 t28 t29 t30 t31 t32 t33 t34 t35 t36 t37 t38 t39 t40 t41)(g:u=.int .i64 D2):eA b1 b2 v K V A B D V2 A2 B2 D2 JA JB (L.setIfInBounds 16 true) W t21 t22 t23 t24 t25 t26 t27 t28 t29 t30 t31 t32 t33 t34 t35 t36 u t38 t39 t40 t41:=by
 have s:=h;cases s;constructor
 case s16=>exact fun _=>g
 all_goals (intro e;replace e:=gS e;first|solve_by_elim|exact gU (by solve_by_elim))
theorem eA.dO (h:eA b1 b2 v K V A B D V2 A2 B2 D2 JA JB L W t21 t22 t23 t24 t25 t26 t27 t28 t29 t30 t31 t32 t33 t34 t35 t36 t37 t38 t39 t40 t41)(g:u=.int .i64 (D*D2)):eA b1 b2 v K V A B D V2 A2 B2 D2 JA JB (L.setIfInBounds 17 true) W t21 t22 t23 t24 t25 t26 t27 t28 t29 t30 t31 t32 t33 t34 t35 t36 t37 u t39 t40 t41:=by
 have s:=h;cases s;constructor
 case s17=>exact fun _=>g
 all_goals (intro e;replace e:=gS e;first|solve_by_elim|exact gU (by solve_by_elim))
theorem eA.dJ (h:eA b1 b2 v K V A B D V2 A2 B2 D2 JA JB L W t21 t22 t23 t24 t25 t26 t27 t28 t29 t30 t31 t32 t33 t34 t35 t36 t37 t38 t39 t40 t41)(g:u=rv K (pv V V2) JA JB (D*D2)):eA b1 b2 v K V A B D V2 A2 B2 D2 JA JB (L.setIfInBounds 18 true) W t21 t22 t23 t24 t25 t26 t27 t28 t29 t30 t31 t32 t33 t34 t35 t36 t37 t38 u t40 t41:=by
 have s:=h;cases s;constructor
 case s18=>exact fun _=>g
 all_goals (intro e;replace e:=gS e;first|solve_by_elim|exact gU (by solve_by_elim))
theorem eA.dH (h:eA b1 b2 v K V A B D V2 A2 B2 D2 JA JB L W t21 t22 t23 t24 t25 t26 t27 t28 t29 t30 t31 t32 t33 t34 t35 t36 t37 t38 t39 t40 t41)(s:∃g:Nat,u=.slice (some ⟨g,0,none⟩) 1 1/\Bk W g #[.int .i64 K,.int .i64 (pv V V2),.int .i64 JA,.int .i64 JB,.int .i64 (D*D2)] 55):eA b1 b2 v K V A B D V2 A2 B2 D2 JA JB (L.setIfInBounds 19 true) W t21 t22 t23 t24 t25 t26 t27 t28 t29 t30 t31 t32 t33 t34 t35 t36 t37 t38 t39 u t41:=by
 have G:=h;cases G;constructor
 case s19=>exact fun _=>s
 all_goals (intro e;replace e:=gS e;first|solve_by_elim|exact gU (by solve_by_elim))
theorem k8 {L:Array Bool}{d:Bool}(h:i≠j):(L.setIfInBounds i true).getD j d=L.getD j d:=by
 simp only[fQ,gM,if_neg h]
theorem lR {L:Array Bool}(h:L.getD j true=false)(g:j<L.size):L.getD j false=false:=by
 simp only[fQ,gD g]at h ⊢;exact h
def Ja (m b1 b2:Nat)(v:xV)(K V A B D V2 A2 B2 D2 JA JB:Int)(G1:xU->xV->Prop)(G2:xU->Prop)(w0:xU)(L:Array Bool)(a:Act)(W:xU):Prop:=
 L.size=22/\(L.getD 20 true=false->Re w0.heap.size w0 W)/\(L.getD 21 false=true->G2 W)/\∃z0 z1 z2 z3 z4 z16 z17 z18 z19 z20 t21 t22 t23 t24 t25 t26 t27 t28 t29 t30 t31 t32 t33 t34 t35 t36 t37 t38 t39 t40 t41 z42:xV,
  a={ tmps:=#[z0,z1,z2,z3,z4,.pointer (some ⟨m,0,none⟩),.pointer (some ⟨b1,0,none⟩),.pointer (some ⟨b2,0,none⟩),z16,z17,z18,z19,z20,t21,t22,t23,t24,t25,t26,t27,t28,t29,t30,t31,t32,t33,t34,t35,t36,t37,t38,t39,t40,t41,z42],defers:=[] }/\(L.getD 20 false=true->L.getD 21 true=false->G1 W t41)/\(L.getD 20 true=false->eA b1 b2 v K V A B D V2 A2 B2 D2 JA JB L W t21 t22 t23 t24 t25 t26 t27 t28 t29 t30 t31 t32 t33 t34 t35 t36 t37 t38 t39 t40 t41)
theorem fF (hi:i<20)(g:L.size=22)(G:L.getD 20 true=false)(s:L.getD 21 true=false)(H:Re w0.heap.size w0 W)(S:eA b1 b2 v K V A B D V2 A2 B2 D2 JA JB (L.setIfInBounds i true) W t21 t22 t23 t24 t25 t26 t27 t28 t29 t30 t31 t32 t33 t34 t35 t36 t37 t38 t39 t40 t41):
  Ja m b1 b2 v K V A B D V2 A2 B2 D2 JA JB G1 G2 w0 (L.setIfInBounds i true) { tmps:=#[z0,z1,z2,z3,z4,.pointer (some ⟨m,0,none⟩),.pointer (some ⟨b1,0,none⟩),.pointer (some ⟨b2,0,none⟩),z16,z17,z18,z19,z20,t21,t22,t23,t24,t25,t26,t27,t28,t29,t30,t31,t32,t33,t34,t35,t36,t37,t38,t39,t40,t41,z42],defers:=[] } W:=
 ⟨by simp[g],fun _=>H,fun e=>by rw[k8 (by omega)]at e;exact absurd e (by simp[lR s (by omega)]),_,_,_,_,_,_,_,_,_,_,_,_,_,_,_,_,_,_,_,_,_,_,_,_,_,_,_,_,_,_,_,_,rfl,fun e=>by rw[k8 (by omega)]at e;exact absurd e (by simp[lR G (by omega)]),fun _=>S⟩
theorem Of {t21 t22 t23 t24 t25 t26 t27 t28 t29 t30 t31 t32 t33 t34 t35 t36 t37 t38 t39 t40:xV}(g:L.size=22)(s:L.getD 21 true=false)(G:G1 W u):
  Ja m b1 b2 v K V A B D V2 A2 B2 D2 JA JB G1 G2 w0 (L.setIfInBounds 20 true) { tmps:=#[z0,z1,z2,z3,z4,.pointer (some ⟨m,0,none⟩),.pointer (some ⟨b1,0,none⟩),.pointer (some ⟨b2,0,none⟩),z16,z17,z18,z19,z20,t21,t22,t23,t24,t25,t26,t27,t28,t29,t30,t31,t32,t33,t34,t35,t36,t37,t38,t39,t40,u,z42],defers:=[] } W:=
 ⟨by simp[g],fun e=>by simp[g]at e,fun e=>by rw[k8 (by omega)]at e;exact absurd e (by simp[lR s (by omega)]),_,_,_,_,_,_,_,_,_,_,_,_,_,_,_,_,_,_,_,_,_,_,_,_,_,_,_,_,_,_,_,_,rfl,fun _ _=>G,fun e=>by simp[g]at e⟩
theorem Og {t21 t22 t23 t24 t25 t26 t27 t28 t29 t30 t31 t32 t33 t34 t35 t36 t37 t38 t39 t40 t41:xV}(s:L.size=22)(g:L.getD 20 false=true)(G:G2 W):
  Ja m b1 b2 v K V A B D V2 A2 B2 D2 JA JB G1 G2 w0 (L.setIfInBounds 21 true) { tmps:=#[z0,z1,z2,z3,z4,.pointer (some ⟨m,0,none⟩),.pointer (some ⟨b1,0,none⟩),.pointer (some ⟨b2,0,none⟩),z16,z17,z18,z19,z20,t21,t22,t23,t24,t25,t26,t27,t28,t29,t30,t31,t32,t33,t34,t35,t36,t37,t38,t39,t40,t41,z42],defers:=[] } W:=
 ⟨by simp[s],fun e=>(by rw[k8 (by omega)]at e;rw[lR e (by omega)]at g;cases g),fun _=>G,_,_,_,_,_,_,_,_,_,_,_,_,_,_,_,_,_,_,_,_,_,_,_,_,_,_,_,_,_,_,_,_,rfl,fun _ e=>by simp[s]at e,fun e=>(by rw[k8 (by omega)]at e;rw[lR e (by omega)]at g;cases g)⟩
theorem sF {L:Array Bool}(hi:L.getD i true=false)(s:i<L.size)(g:j<L.size)(h:L.getD j false=true->L.getD i false=true):L.getD j true=false:=by
 cases e:L.getD j true
 ·rfl
 ·exfalso
  have h1:L.getD j false=true:=by
   simp only[fQ,gD g]at e ⊢;exact e
  have h2:=h h1;rw[lR hi s]at h2;cases h2
theorem Da {B I:Nat}{H R W:xU}{v:xV}{l l':List Rw}(hm:Bk H m #[v] 28)(x4:m<I)(Y:B<=m)(G:aC H I v l)(s:Re H.heap.size H R)(hg:R.grownBy W v.ownBlock)(T:aC W I u l')
  (hq:u.ownBlock=v.ownBlock\/∃q,u.ownBlock=some q/\R.heap.size<=q/\q<W.heap.size) (hw:Re B w H) (hN:I<=H.heap.size):
  W.frozen? ⟨m,0,none⟩=false/\W.cell? ⟨m,0,none⟩=some v/\E8 I H (W.setCell ⟨m,0,none⟩ u)/\j8 m H (W.setCell ⟨m,0,none⟩ u)/\Bk (W.setCell ⟨m,0,none⟩ u) m #[u] 28/\aC (W.setCell ⟨m,0,none⟩ u) I u l'/\Re B w (W.setCell ⟨m,0,none⟩ u)/\I<=(W.setCell ⟨m,0,none⟩ u).heap.size:=by
 have S:v.ownBlock≠some m:=fun e=>by have:=bU G m e;omega
 have O:=hm.keep s;have M:Bk W m #[v] 28:=by unfold Bk;rw[hg.block m O.lt (fun e=>S e.symm)];exact O
 have hz:(W.setCell ⟨m,0,none⟩ u).heap.size=W.heap.size:=by simp
 have x3:=s.size;have x2:=hg.size;have Z:=cC G s;refine⟨?_,M.cell (i:=0) (v:=v) rfl,⟨by omega,fun k o hk ho hc=>?_⟩,(j8.below s hm.lt).trans (j8.grow O hg S hq),by simpa using M.set 0 u,?_,?_,by omega⟩
 ·unfold Bk at M;simp[xU.frozen?,M]
 ·have U:=(fM.1 ho).1;rw[Rh _ _ _ _ (show k≠(⟨m,0,none⟩:JK).block from by show k≠m;omega),hg.block k (by omega) (fun e=>?_),s.block k U]
  ·exact ho
  ·obtain⟨_,⟨rfl,_⟩|⟨g,cp,x5,rfl,_,hh,_⟩⟩:=G
   ·simp[Rx]at e
   ·simp[Rx]at e;subst e;rw[hh]at ho;cases ho;cases hc
 ·refine fB T fun q e=>Rh _ _ _ _ (show q≠m from ?_);have:=bU T q e;omega
 ·refine Re.setCell ?_ Y _;exact Below.aU (hw.trans (s.mono (by have:=hm.lt;omega))) hg (by have:=O.lt;omega) (fun q e=>by have:=bU G q e;omega)
end
open Go.RowKit Go.Shelf
attribute [local go_sem] AP.semAt_some
theorem Pj {B:Nat}{W W':xU}(h:Re B w W)(g:Re W.heap.size W W')(s:B<=W.heap.size:=by omega):Re B w W':=h.trans (g.mono s)
theorem Gk {B:Nat}{v:xV}{l:List Rw}(h:aC w B v l){q:Nat}(e:v.ownBlock=some q):∃c:Array xV,Bk w q c 55:=by
 rcases fX h jP with⟨rfl,_⟩|⟨g,G,c,rfl,_,s,_⟩
 ·cases e
 ·have:g=q:=by simpa[Rx]using e
  subst this;exact⟨c,s⟩
theorem Gq (a b:Option JK)(y5 x8:Nat)(s t:List Rw)(w:xU)(h:Rs w (.slice a s.length y5) s)(h':Rs w (.slice b t.length x8) t)(hk:aZ s=true)(a9:aZ t=true):
  C5 S0 4 Ru 173 #[.slice a s.length y5,.slice b t.length x8] w fun e w'=>∃o:xV,e=.returned o/\aC w' w.heap.size o (cY s t)/\Re w.heap.size w w':=by
 have HH:Hid (Rs w (.slice a s.length y5) s):=h;have o1:Hid (Rs w (.slice b t.length x8) t):=h';clear h h';have a3:w.heap.size<=w.heap.size:=Rp _;refine callsIn_of_wp_marks Tryz.func173 rfl trivial ?_ rfl;simp only[Tryz.ntmps173,qV,nX,tM,Rt,Rq,gX,gQ,sD,pU,tL,tK]
 gi_wp2
 refine⟨trivial,?_⟩;refine Ry (AW.2 (L1 _ _ _ _ _ _ _)) ?_;rintro e W0 ⟨rfl,y7⟩;have b9:Bk W0 w.heap.size #[.slice none 0 0] 28:=by
  rw[y7];exact ((Bk.new (w:=w) _ _ rfl).alloc _).alloc _
 have n4:Bk W0 (w.heap.size+1) #[.slice a s.length y5] 28:=by
  rw[y7];exact (Bk.new (w:=w.alloc (.cells #[.slice none 0 0] 28)) _ _ (by simp)).alloc _
 have n3:Bk W0 (w.heap.size+1+1) #[.slice b t.length x8] 28:=by
  rw[y7];exact Bk.new (w:=(w.alloc (.cells #[.slice none 0 0] 28)).alloc _) _ _ (by simp)
 have i1:W0.heap.size=w.heap.size+1+1+1:=by rw[y7];simp
 have b7:Re w.heap.size w W0:=by
  rw[y7];exact aH (aH (aH (Rg _ _) _) _) _
 clear y7;have b8:Re w.heap.size w W0:=b7;have j2:cD W0 w.heap.size=none:=by unfold cD;rw[b9.cell (i:=0) (v:= .slice none 0 0) rfl];rfl
 gi_wp2
 clear b7;have hG:Hid (W0.heap.size=w.heap.size+1+1+1):=i1;refine wpIn_rangeFunc_ownH (n:=4) (w0:=W0) rfl (by omega) (gf:=244) (lb:=#[.pointer (some ⟨w.heap.size+1,0,none⟩),.pointer (some ⟨w.heap.size+1+1,0,none⟩)]) rfl trivial (enters_of Rv (by kernel_rfl) rfl)
  (Gt (w.heap.size+1) (w.heap.size+1+1) w.heap.size a b y5 x8 s t w W0 hk a9 HH.out o1.out a3 (by omega) (Kc.aD b8) n4 n3 (by omega) j2)
  (fun h k=>h.trans k) (fun W lq o o' hN ho hc _=>j8.put W lq o o' (by omega) ho hc) (Rg _ _) (fun _=>rfl)
  (fun pre W=>(∃v:xV,Bk W w.heap.size #[v] 28/\aC W W0.heap.size v (pre.map fun z=>DO z.1))/\Re w.heap.size w W/\W0.heap.size<=W.heap.size)
  (fun _ _ _=>False)
  (fun pre A B a0 hs hg hr=>by
   obtain⟨⟨v,h1,h2⟩,h5,h6⟩:=hs;refine⟨⟨v,Bk.aU h1 hg (fun r e=>by have:=(hr r e).1;omega),fB h2 fun q e=>hg.block q (oT h2 q e) (fun e'=>?_)⟩,Below.aU h5 hg (by omega) (fun r e=>by have:=(hr r e).1;omega),Ro h6 hg.size⟩;obtain⟨_,o,h7,h8⟩:=hr q e'.symm;obtain⟨_,⟨rfl,_⟩|⟨g,cp,hE,rfl,_,hh,_⟩⟩:=h2
   ·simp[Rx]at e
   ·simp[Rx]at e;subst e;rw[hh]at h7;cases h7;cases h8)
  (fun _ _ _ _ _ hs _ _=>hs)
  ⟨⟨_,b9,oN _ _ _ _ _⟩,b8,Rp _⟩
  (fun z a' W=>∃c1 c2:Nat,W0.heap.size<=c1/\W0.heap.size<=c2/\Bk W c1 #[.int .i64 z.1.1.1.1.1,.int .i64 z.1.1.1.1.2,.int .i64 z.1.1.1.2.1,.int .i64 z.1.1.1.2.2,.int .i64 z.1.1.2] 55/\Bk W c2 #[.int .i64 z.1.2.1.1.1,.int .i64 z.1.2.1.1.2,.int .i64 z.1.2.1.2.1,.int .i64 z.1.2.1.2.2,.int .i64 z.1.2.2] 55/\cD W w.heap.size≠some c1/\cD W w.heap.size≠some c2 /\
   a'={ tmps:=#[.slice a s.length y5,.slice b t.length x8,undef,undef,.slice none 0 0,.pointer (some ⟨w.heap.size,0,none⟩),.pointer (some ⟨c1,0,none⟩),.pointer (some ⟨c2,0,none⟩),.slice a s.length y5,.slice b t.length x8,
    .func (.func 244) #[] #[.pointer (some ⟨w.heap.size+1,0,none⟩),.pointer (some ⟨w.heap.size+1+1,0,none⟩)],Nv z.1.1,Nv z.1.2,undef,undef,undef,undef,undef,undef,undef,undef,undef,undef,undef,undef,undef,undef,undef,undef,undef,undef,undef,undef,undef,undef],defers:=[] })
  (fun z a' _ A B a0 hs hg hr=>by
   obtain⟨c1,c2,h1,h2,h3,h4,h5,h6,h7⟩:=hs;have hne:∀{k:Nat}{c:Array xV}{t:Nk},Bk A k c t->∀r,a0=some r->k≠r:=fun H r e e'=>by
    obtain⟨_,o,h8,h9⟩:=hr r e;subst e';unfold Bk at H;rw[H]at h8;cases h8;cases h9
   have x9:cD B w.heap.size=cD A w.heap.size:=by
    by_cases a7:w.heap.size<A.heap.size
    ·exact aB (hg.block w.heap.size a7 (fun e=>by have:=(hr w.heap.size e.symm).1;omega))
    ·have:=h3.lt;omega
   exact⟨c1,c2,h1,h2,Bk.aU h3 hg (hne h3),Bk.aU h4 hg (hne h4),by rw[x9];exact h5,by rw[x9];exact h6,h7⟩)
  ?assign ?body ?done ?stop
 case assign=>
  rintro lq pre z W K ⟨⟨v,h1,h2⟩,h5,h6⟩ Z;have z7:=h1.lt;have y6:Re W.heap.size W ((W.alloc (.cells #[.int .i64 z.1.1.1.1.1,.int .i64 z.1.1.1.1.2,.int .i64 z.1.1.1.2.1,.int .i64 z.1.1.1.2.2,.int .i64 z.1.1.2] 55)).alloc (.cells #[.int .i64 z.1.2.1.1.1,.int .i64 z.1.2.1.1.2,.int .i64 z.1.2.1.2.1,.int .i64 z.1.2.1.2.2,.int .i64 z.1.2.2] 55)):=aH (aH (Rg _ _) _) _;have x9:cD W w.heap.size=v.ownBlock:=by unfold cD;rw[h1.cell (i:=0) (v:=v) rfl];rfl
  have hq:∀q,v.ownBlock=some q->q<W.heap.size:=fun q e=>oT h2 q e
  gi_wp2
  refine Z _ _ (((Qz.alloc _ _).trans (Qz.alloc _ _)).from _) (j8.below y6 z7) ⟨⟨v,h1.keep y6,cC h2 y6⟩,Pj h5 y6,by simp;omega⟩
   ⟨W.heap.size,W.heap.size+1,h6,by omega,(Bk.new _ _ rfl).alloc _,Bk.new _ _ (by simp),?_,?_,rfl⟩
  ·rw[aB (y6.block w.heap.size z7),x9];intro e;have:=hq _ e;omega
  ·rw[aB (y6.block w.heap.size z7),x9];intro e;have:=hq _ e;omega
 case body=>
  rintro lq pre z a' W t9-⟨⟨v,h1,h2⟩,h5,h6⟩ ⟨c1,c2,hC,hA,k1,k2,i9,i8,rfl⟩ a7;obtain⟨⟨⟨⟨⟨K,V⟩,⟨A,B⟩⟩,D⟩,⟨⟨⟨K2,V2⟩,⟨A2,B2⟩⟩,D2⟩⟩,v3,v2,b4⟩:=z;simp only at b4;subst b4;obtain⟨-,-,i3,i4⟩:=CP v3;obtain⟨-,-,j3,j4⟩:=CP v2;simp only at i3 i4 j3 j4 k1 k2;have a6:=Fb (mG v3) (mG v2);simp only at a6;have iw:Ih.i64.wrap (D*D2)=D*D2:=by rw[Ih.wrap_i64]<;>omega
  have HJ:Hid (∀W,RW Ru 98 #[tv A B,tv A2 B2] W fun e w'=>e=.returned (tv (k9 A B A2 B2) (kA A B A2 B2))/\Re W.heap.size W w'):=fun W=>yG A B A2 B2 W;have a4:(pre.map fun z=>DO z.1).length<=160000:=by rw[nA];omega
  obtain⟨l',w8⟩:∃l',l'=((pre++[⟨((((K,V),(A,B)),D),(((K,V2),(A2,B2)),D2)),v3,v2,rfl⟩]:List XP).map fun z=>DO z.1):=⟨_,rfl⟩;have a8:l'=(pre.map fun z=>DO z.1)++[(((K,pv V V2),(k9 A B A2 B2,kA A B A2 B2)),D*D2)]:=by rw[w8,iP];rfl
  have o0:Hid (l'=((pre++[⟨((((K,V),(A,B)),D),(((K,V2),(A2,B2)),D2)),v3,v2,rfl⟩]:List XP).map fun z=>DO z.1)):=w8;clear w8;generalize (pre.map fun z=>DO z.1)=l at*;generalize k9 A B A2 B2=JA at*;generalize kA A B A2 B2=JB at*;have o2:Hid (∀(W1:xU)(g:Nat),Re W.heap.size W W1->Bk W1 g #[.int .i64 K,.int .i64 (pv V V2),.int .i64 JA,.int .i64 JB,.int .i64 (D*D2)] 55->∃(u:xV)(W':xU),(Builtin.append_ #[28,28] 28 #[v,.slice (some ⟨g,0,none⟩) 1 1]).run Ru W1=.ok u W'/\(∃(q:JK)(n c:Nat),u=.slice (some q) n c)/\W'.frozen? ⟨w.heap.size,0,none⟩=false/\W'.cell? ⟨w.heap.size,0,none⟩=some v/\E8 W0.heap.size W (W'.setCell ⟨w.heap.size,0,none⟩ u)/\j8 w.heap.size W (W'.setCell ⟨w.heap.size,0,none⟩ u)/\((∃v:xV,Bk (W'.setCell ⟨w.heap.size,0,none⟩ u) w.heap.size #[v] 28/\aC (W'.setCell ⟨w.heap.size,0,none⟩ u) W0.heap.size v l')/\Re w.heap.size w (W'.setCell ⟨w.heap.size,0,none⟩ u)/\W0.heap.size<=(W'.setCell ⟨w.heap.size,0,none⟩ u).heap.size)):=fun W1 g H hg=>by
   have c4:=cC h2 H;obtain⟨gq,t0,W',e1,e2,e3,e4,e5⟩:=EN 28 c4 g K (pv V V2) JA JB (D*D2) hg (by omega) (by have:=H.size;omega);rw[<- a8]at e2;obtain⟨f1,f2,f3,f4,f5,f6,f7,f8⟩:=Da h1 (by omega) a3 h2 H e3 e2 (e4.elim (fun e=> .inl e.symm) (fun e=> .inr ⟨gq,rfl,by omega,e5⟩)) h5 h6;exact⟨_,W',e1,⟨_,_,_,rfl⟩,f1,f2,f3,f4,⟨_,f5,f6⟩,f7,f8⟩
  have HM:Hid (Bk W w.heap.size #[v] 28):=h1;have H1:Hid (Bk W c1 #[.int .i64 K,.int .i64 V,.int .i64 A,.int .i64 B,.int .i64 D] 55):=k1;have H2:Hid (Bk W c2 #[.int .i64 K,.int .i64 V2,.int .i64 A2,.int .i64 B2,.int .i64 D2] 55):=k2;clear h1 h2 h5 h6 k1 k2 i9 i8 a8 a4 a6;obtain⟨G1,b6⟩:∃G1:xU->xV->Prop,G1=fun W' u=>(∃(q:JK)(n c:Nat),u=.slice (some q) n c)/\W'.frozen? ⟨w.heap.size,0,none⟩=false/\W'.cell? ⟨w.heap.size,0,none⟩=some v/\E8 W0.heap.size W (W'.setCell ⟨w.heap.size,0,none⟩ u)/\j8 w.heap.size W (W'.setCell ⟨w.heap.size,0,none⟩ u)/\((∃v:xV,Bk (W'.setCell ⟨w.heap.size,0,none⟩ u) w.heap.size #[v] 28/\aC (W'.setCell ⟨w.heap.size,0,none⟩ u) W0.heap.size v l')/\Re w.heap.size w (W'.setCell ⟨w.heap.size,0,none⟩ u)/\W0.heap.size<=(W'.setCell ⟨w.heap.size,0,none⟩ u).heap.size):=⟨_,rfl⟩;obtain⟨G2,b5⟩:∃G2:xU->Prop,G2=fun W'=>E8 W0.heap.size W W'/\j8 w.heap.size W W'/\((∃v:xV,Bk W' w.heap.size #[v] 28/\aC W' W0.heap.size v l')/\Re w.heap.size w W'/\W0.heap.size<=W'.heap.size):=⟨_,rfl⟩
  gi_wp2
  refine tI (by kernel_rfl) (Ja w.heap.size c1 c2 v K V A B D V2 A2 B2 D2 JA JB G1 G2 W) ?hg ?hs ?h0 ?hstep ?hend
  case hg=>
   intro i op ho;have hi:i<22:=(fM.1 ho).1;obtain rfl|rfl|rfl|rfl|rfl|rfl|rfl|rfl|rfl|rfl|rfl|rfl|rfl|rfl|rfl|rfl|rfl|rfl|rfl|rfl|rfl|rfl:i=0\/i=1\/i=2\/i=3\/i=4\/i=5\/i=6\/i=7\/i=8\/i=9\/i=10\/i=11\/i=12\/i=13\/i=14\/i=15\/i=16\/i=17\/i=18\/i=19\/i=20\/i=21:=by omega
   all_goals cases ho;rfl
  case hs=>intro L a W hI;exact hI.1
  case h0=>
   refine⟨by simp,fun _=>(Rg _ _).drew,fun e=>by simp at e,_,_,_,_,_,_,_,_,_,_,_,_,_,_,_,_,_,_,_,_,_,_,_,_,_,_,_,_,_,_,_,_,rfl,fun e=>by simp at e,fun _=>?_⟩;constructor<;>(intro e;simp at e)
  case hend=>
   rintro L a W' ⟨T,-,hF,-⟩ hr;have M:∀j,j<22->L.getD j false=true:=by
    refine jC (by simpa using T) ?_ hr;intro i op ho;have hi:i<22:=(fM.1 ho).1;obtain rfl|rfl|rfl|rfl|rfl|rfl|rfl|rfl|rfl|rfl|rfl|rfl|rfl|rfl|rfl|rfl|rfl|rfl|rfl|rfl|rfl|rfl:i=0\/i=1\/i=2\/i=3\/i=4\/i=5\/i=6\/i=7\/i=8\/i=9\/i=10\/i=11\/i=12\/i=13\/i=14\/i=15\/i=16\/i=17\/i=18\/i=19\/i=20\/i=21:=by omega
    all_goals cases ho
    all_goals (first|(simp;done)|(simp[Rm];done)|decide)
   have hq:=hF (M 21 (by omega));rw[b5,o0.out]at hq;clear hF M hr
   gi_wp2
   exact hq
  case hstep=>
   rintro L a W' i op U ⟨T,hB,hF,z0,z1,z2,z3,z4,z16,z17,z18,z19,z20,t21,t22,t23,t24,t25,t26,t27,t28,t29,t30,t31,t32,t33,t34,t35,t36,t37,t38,t39,t40,t41,z42,rfl,hQ,hS⟩ hi ho;have Y:L.getD 20 false=true->∀j,j<20->L.getD j false=true:=by
    intro y8;have l0:=U 20 _ rfl y8 ⟨0,.data⟩ (by simp) rfl;have g3:=U 20 _ rfl y8 ⟨19,.data⟩ (by simp) rfl;have v1:=U 19 _ rfl g3 ⟨18,.data⟩ (by simp) rfl;have l2:=U 18 _ rfl v1 ⟨2,.data⟩ (by simp) rfl;have l7:=U 18 _ rfl v1 ⟨7,.data⟩ (by simp) rfl;have a2:=U 18 _ rfl v1 ⟨12,.data⟩ (by simp) rfl;have a1:=U 18 _ rfl v1 ⟨17,.data⟩ (by simp) rfl;have l1:=U 2 _ rfl l2 ⟨1,.data⟩ (by simp) rfl;have l4:=U 7 _ rfl l7 ⟨4,.data⟩ (by simp) rfl;have l6:=U 7 _ rfl l7 ⟨6,.data⟩ (by simp) rfl;have l3:=U 4 _ rfl l4 ⟨3,.data⟩ (by simp) rfl;have l5:=U 6 _ rfl l6 ⟨5,.data⟩ (by simp) rfl;have l9:=U 12 _ rfl a2 ⟨9,.data⟩ (by simp) rfl;have g6:=U 12 _ rfl a2 ⟨11,.data⟩ (by simp) rfl;have l8:=U 9 _ rfl l9 ⟨8,.data⟩ (by simp) rfl;have t8:=U 11 _ rfl g6 ⟨10,.data⟩ (by simp) rfl;have g5:=U 17 _ rfl a1 ⟨14,.data⟩ (by simp) rfl;have g4:=U 17 _ rfl a1 ⟨16,.data⟩ (by simp) rfl;have t7:=U 14 _ rfl g5 ⟨13,.data⟩ (by simp) rfl;have t6:=U 16 _ rfl g4 ⟨15,.data⟩ (by simp) rfl;intro j hj;obtain rfl|rfl|rfl|rfl|rfl|rfl|rfl|rfl|rfl|rfl|rfl|rfl|rfl|rfl|rfl|rfl|rfl|rfl|rfl|rfl:j=0\/j=1\/j=2\/j=3\/j=4\/j=5\/j=6\/j=7\/j=8\/j=9\/j=10\/j=11\/j=12\/j=13\/j=14\/j=15\/j=16\/j=17\/j=18\/j=19:=by omega
    all_goals assumption
   have O:L.getD 21 false=true->L.getD 20 false=true:=fun g2=>U 21 _ rfl g2 ⟨20,.data⟩ (by simp) rfl;clear U;obtain⟨R,o',a5,M⟩:=Df.1 hi;rw[ho]at a5;cases a5;have p0:i<22:=(fM.1 ho).1;clear hi;generalize Z:(fun a' w'=>Ja w.heap.size c1 c2 v K V A B D V2 A2 B2 D2 JA JB G1 G2 W (L.setIfInBounds i true) a' w')=K';obtain rfl|rfl|rfl|rfl|rfl|rfl|rfl|rfl|rfl|rfl|rfl|rfl|rfl|rfl|rfl|rfl|rfl|rfl|rfl|rfl|rfl|rfl:i=0\/i=1\/i=2\/i=3\/i=4\/i=5\/i=6\/i=7\/i=8\/i=9\/i=10\/i=11\/i=12\/i=13\/i=14\/i=15\/i=16\/i=17\/i=18\/i=19\/i=20\/i=21:=by omega
   ·cases ho;have G:L.getD 20 true=false:=sF R (by omega) (by omega) (fun e=>Y e _ (by omega));have I:L.getD 21 true=false:=sF G (by omega) (by omega) O;have H:=hB G;have S:=hS G;have c0:=(HM.out.keep H).cell (i:=0) (v:=v) rfl;go_simp;subst Z;exact fF (by omega) T G I H (S.aw rfl)
   ·cases ho;have G:L.getD 20 true=false:=sF R (by omega) (by omega) (fun e=>Y e _ (by omega));have I:L.getD 21 true=false:=sF G (by omega) (by omega) O;have H:=hB G;have S:=hS G;go_simp;subst Z;exact fF (by omega) T G I H (S.au rfl)
   ·cases ho;have G:L.getD 20 true=false:=sF R (by omega) (by omega) (fun e=>Y e _ (by omega));have I:L.getD 21 true=false:=sF G (by omega) (by omega) O;have H:=hB G;have S:=hS G;have e1:=S.s1 (M ⟨1,.data⟩ (by simp) rfl);subst e1;obtain⟨x0,x1,x2,x3,x4⟩:=(H1.out.keep H).ag;obtain⟨y0,y1,y2,y3,y4⟩:=(H2.out.keep H).ag;go_simp;subst Z;exact fF (by omega) T G I H (S.ar rfl)
   ·cases ho;have G:L.getD 20 true=false:=sF R (by omega) (by omega) (fun e=>Y e _ (by omega));have I:L.getD 21 true=false:=sF G (by omega) (by omega) O;have H:=hB G;have S:=hS G;go_simp;subst Z;exact fF (by omega) T G I H (S.aq rfl)
   ·cases ho;have G:L.getD 20 true=false:=sF R (by omega) (by omega) (fun e=>Y e _ (by omega));have I:L.getD 21 true=false:=sF G (by omega) (by omega) O;have H:=hB G;have S:=hS G;have e3:=S.s3 (M ⟨3,.data⟩ (by simp) rfl);subst e3;obtain⟨x0,x1,x2,x3,x4⟩:=(H1.out.keep H).ag;obtain⟨y0,y1,y2,y3,y4⟩:=(H2.out.keep H).ag;go_simp;subst Z;exact fF (by omega) T G I H (S.be rfl)
   ·cases ho;have G:L.getD 20 true=false:=sF R (by omega) (by omega) (fun e=>Y e _ (by omega));have I:L.getD 21 true=false:=sF G (by omega) (by omega) O;have H:=hB G;have S:=hS G;go_simp;subst Z;exact fF (by omega) T G I H (S.cb rfl)
   ·cases ho;have G:L.getD 20 true=false:=sF R (by omega) (by omega) (fun e=>Y e _ (by omega));have I:L.getD 21 true=false:=sF G (by omega) (by omega) O;have H:=hB G;have S:=hS G;have e5:=S.s5 (M ⟨5,.data⟩ (by simp) rfl);subst e5;obtain⟨x0,x1,x2,x3,x4⟩:=(H1.out.keep H).ag;obtain⟨y0,y1,y2,y3,y4⟩:=(H2.out.keep H).ag;go_simp;subst Z;exact fF (by omega) T G I H (S.ca rfl)
   ·cases ho;have G:L.getD 20 true=false:=sF R (by omega) (by omega) (fun e=>Y e _ (by omega));have I:L.getD 21 true=false:=sF G (by omega) (by omega) O;have H:=hB G;have S:=hS G;have e4:=S.s4 (M ⟨4,.data⟩ (by simp) rfl);have e6:=S.s6 (M ⟨6,.data⟩ (by simp) rfl);subst e4 e6;go_simp;refine⟨trivial,?_⟩;refine Rz lq (Ry (AW.2 (vA i3 i4 j3 j4 _)) ?_);rintro e W1 ⟨rfl,z5⟩;subst Z;exact fF (by omega) T G I (aG H z5) ((S.keep z5).cZ rfl)
   ·cases ho;have G:L.getD 20 true=false:=sF R (by omega) (by omega) (fun e=>Y e _ (by omega));have I:L.getD 21 true=false:=sF G (by omega) (by omega) O;have H:=hB G;have S:=hS G;go_simp;subst Z;exact fF (by omega) T G I H (S.cN rfl)
   ·cases ho;have G:L.getD 20 true=false:=sF R (by omega) (by omega) (fun e=>Y e _ (by omega));have I:L.getD 21 true=false:=sF G (by omega) (by omega) O;have H:=hB G;have S:=hS G;have e8:=S.s8 (M ⟨8,.data⟩ (by simp) rfl);subst e8;obtain⟨x0,x1,x2,x3,x4⟩:=(H1.out.keep H).ag;obtain⟨y0,y1,y2,y3,y4⟩:=(H2.out.keep H).ag;go_simp;subst Z;exact fF (by omega) T G I H (S.cg rfl)
   ·cases ho;have G:L.getD 20 true=false:=sF R (by omega) (by omega) (fun e=>Y e _ (by omega));have I:L.getD 21 true=false:=sF G (by omega) (by omega) O;have H:=hB G;have S:=hS G;go_simp;subst Z;exact fF (by omega) T G I H (S.bQ rfl)
   ·cases ho;have G:L.getD 20 true=false:=sF R (by omega) (by omega) (fun e=>Y e _ (by omega));have I:L.getD 21 true=false:=sF G (by omega) (by omega) O;have H:=hB G;have S:=hS G;have m4:=S.s10 (M ⟨10,.data⟩ (by simp) rfl);subst m4;obtain⟨x0,x1,x2,x3,x4⟩:=(H1.out.keep H).ag;obtain⟨y0,y1,y2,y3,y4⟩:=(H2.out.keep H).ag;go_simp;subst Z;exact fF (by omega) T G I H (S.bL rfl)
   ·cases ho;have G:L.getD 20 true=false:=sF R (by omega) (by omega) (fun e=>Y e _ (by omega));have I:L.getD 21 true=false:=sF G (by omega) (by omega) O;have H:=hB G;have S:=hS G;have e9:=S.s9 (M ⟨9,.data⟩ (by simp) rfl);have m3:=S.s11 (M ⟨11,.data⟩ (by simp) rfl);subst e9 m3;go_simp;refine⟨trivial,?_⟩;refine Rz lq (Ry (AW.2 (HJ.out _)) ?_);rintro e W1 ⟨rfl,z5⟩;subst Z;exact fF (by omega) T G I (aG H z5) ((S.keep z5).az rfl)
   ·cases ho;have G:L.getD 20 true=false:=sF R (by omega) (by omega) (fun e=>Y e _ (by omega));have I:L.getD 21 true=false:=sF G (by omega) (by omega) O;have H:=hB G;have S:=hS G;go_simp;subst Z;exact fF (by omega) T G I H (S.bu rfl)
   ·cases ho;have G:L.getD 20 true=false:=sF R (by omega) (by omega) (fun e=>Y e _ (by omega));have I:L.getD 21 true=false:=sF G (by omega) (by omega) O;have H:=hB G;have S:=hS G;have m1:=S.s13 (M ⟨13,.data⟩ (by simp) rfl);subst m1;obtain⟨x0,x1,x2,x3,x4⟩:=(H1.out.keep H).ag;obtain⟨y0,y1,y2,y3,y4⟩:=(H2.out.keep H).ag;go_simp;subst Z;exact fF (by omega) T G I H (S.cq rfl)
   ·cases ho;have G:L.getD 20 true=false:=sF R (by omega) (by omega) (fun e=>Y e _ (by omega));have I:L.getD 21 true=false:=sF G (by omega) (by omega) O;have H:=hB G;have S:=hS G;go_simp;subst Z;exact fF (by omega) T G I H (S.ct rfl)
   ·cases ho;have G:L.getD 20 true=false:=sF R (by omega) (by omega) (fun e=>Y e _ (by omega));have I:L.getD 21 true=false:=sF G (by omega) (by omega) O;have H:=hB G;have S:=hS G;have k7:=S.s15 (M ⟨15,.data⟩ (by simp) rfl);subst k7;obtain⟨x0,x1,x2,x3,x4⟩:=(H1.out.keep H).ag;obtain⟨y0,y1,y2,y3,y4⟩:=(H2.out.keep H).ag;go_simp;subst Z;exact fF (by omega) T G I H (S.dT rfl)
   ·cases ho;have G:L.getD 20 true=false:=sF R (by omega) (by omega) (fun e=>Y e _ (by omega));have I:L.getD 21 true=false:=sF G (by omega) (by omega) O;have H:=hB G;have S:=hS G;have m0:=S.s14 (M ⟨14,.data⟩ (by simp) rfl);have k5:=S.s16 (M ⟨16,.data⟩ (by simp) rfl);subst m0 k5;go_simp;subst Z;exact fF (by omega) T G I H (S.dO rfl)
   ·cases ho;have G:L.getD 20 true=false:=sF R (by omega) (by omega) (fun e=>Y e _ (by omega));have I:L.getD 21 true=false:=sF G (by omega) (by omega) O;have H:=hB G;have S:=hS G;have e2:=S.s2 (M ⟨2,.data⟩ (by simp) rfl);have e7:=S.s7 (M ⟨7,.data⟩ (by simp) rfl);have m2:=S.s12 (M ⟨12,.data⟩ (by simp) rfl);have k4:=S.s17 (M ⟨17,.data⟩ (by simp) rfl);subst e2 e7 m2 k4;go_simp;subst Z;exact fF (by omega) T G I H (S.dJ rfl)
   ·cases ho;have G:L.getD 20 true=false:=sF R (by omega) (by omega) (fun e=>Y e _ (by omega));have I:L.getD 21 true=false:=sF G (by omega) (by omega) O;have H:=hB G;have S:=hS G;have k3:=S.s18 (M ⟨18,.data⟩ (by simp) rfl);subst k3;have b3:Re W'.heap.size W' (W'.alloc (.cells #[.int .i64 K,.int .i64 (pv V V2),.int .i64 JA,.int .i64 JB,.int .i64 (D*D2)] 55)):=aH (Rg _ _) _;go_simp;subst Z;exact fF (by omega) T G I (aG H b3) ((S.keep b3).dH ⟨_,rfl,Bk.new _ _ rfl⟩)
   ·cases ho;have I:L.getD 21 true=false:=sF R (by omega) (by omega) O;have H:=hB R;have S:=hS R;have e0:=S.s0 (M ⟨0,.data⟩ (by simp) rfl);obtain⟨g,k0,hg⟩:=S.s19 (M ⟨19,.data⟩ (by simp) rfl);subst e0 k0;obtain⟨u,W2,e1,e2⟩:=o2.out W' g H hg;have i5:G1 W2 u:=by rw[b6];exact e2
    clear e2;clear S hS hQ;refine AN _ _ _ rfl rfl rfl e1 ?_;subst Z;exact Of T I i5
   ·cases ho;have y8:=M ⟨20,.data⟩ (by simp) rfl;have hq:=hQ y8 R;rw[b6]at hq;obtain⟨⟨qa,qn,qc,rfl⟩,q1,q2,q3⟩:=hq;have i2:G2 (W'.setCell ⟨w.heap.size,0,none⟩ (.slice (some qa) qn qc)):=by rw[b5];exact q3
    clear q3;clear hQ hS;go_simp;subst Z;exact Og T y8 i2
 case done=>
  rintro D xs W hD hS ⟨⟨v,h1,h2⟩,h5,h6⟩ Z;have c0:=h1.cell (i:=0) (v:=v) rfl;have HX:(xs.map fun z=>DO z.1)=cY s t:=by rw[<- NA,<-hS,tN];rfl
  rw[HX]at h2;have a4:(cY s t).length<=160000:=by
   have h3:=yT s t;have h4:s.length*t.length<=400*400:=Rn (i6 hk) (i6 a9);omega
  obtain⟨n5,m5,rfl,-⟩:=Rs.open (aC.rs h2 (by omega));have O3:Hid (aC W W0.heap.size (.slice n5 (cY s t).length m5) (cY s t)):=h2;clear hS HX h2 h1
  gi_wp2
  refine⟨by simp,.inl ⟨_,_,rfl,run_takeDeferred Z,?_⟩⟩;refine⟨_,results_tmp rfl _ _ _,_,rfl,?_,?_⟩
  ·refine cW (B:=W0.heap.size) ?_ (by omega);refine fB O3.out fun q e=>?_;obtain⟨c,b0⟩:=Gk O3.out e;exact (M1 W D (.deferred none)).block q (oT O3.out q e) (fun e=>by cases e;unfold Bk at b0;rw[b0]at Z;cases Z)
  ·exact h5.trans (belowK_b (w:=W0) (by omega) W D _ _ hD Z rfl rfl)
 case stop=>
  rintro D c pre W _ _ h _;exact h.elim
theorem FR (v u:xV)(s t:List Rw)(w:xU)(h:Rs w v s)(I:Rs w u t)(O:aZ s=true)(H:aZ t=true):
  RW Ru 173 #[v,u] w fun e G=>∃o:xV,e=.returned o/\aC G w.heap.size o (cY s t)/\Re w.heap.size w G:=by
 obtain⟨a,M,rfl,-,-,-,-⟩:=Rs.open h;obtain⟨b,g,rfl,-,-,-,-⟩:=Rs.open I;exact AW.1 (Gq a b M g s t w h I O H)
end Go.Proofs.YtbdpcngcbnoioaaGreatDoor
