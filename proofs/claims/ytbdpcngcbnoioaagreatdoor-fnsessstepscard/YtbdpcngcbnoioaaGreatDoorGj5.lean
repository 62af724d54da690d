import Derived.Test.YtbdpcngcbnoioaaGreatDoorGe1
import Derived.Test.YtbdpcngcbnoioaaGreatDoorGj1
import Derived.OrdersIn
import Derived.Test.YtbdpcngcbnoioaaGreatDoorGlk
import Derived.Test.YtbdpcngcbnoioaaGreatDoorGk2
set_option maxRecDepth 100000
set_option maxHeartbeats 16000000
namespace Go.Proofs.YtbdpcngcbnoioaaGreatDoor
open Go.RowKit
open _root_.Array renaming getElem?_eq_some_iff->fD,getD_eq_getD_getElem?->fH,getElem?_eq_getElem->fV,getElem?_setIfInBounds->gY,replicate_zero->gZ,replicate_succ->iC,replicate->jU
open _root_.List renaming map_append->kR,take_length->kX,mem_of_getElem?->lI,filter_append->lY,length_map->mF,length_append->mJ,length_take->nU,length_cons->oJ,length_filter_le->oO,flatMap_append->qA,append_toArray->rN,size_toArray->sE,push_toArray->sG,append_assoc->sH,cons_append->sI,nil_append->wH,length_nil->wR,map_map->AT
open Go renaming World->B3,Value->BK,Oper->E0,callsIn_wide->EJ,CallsIn->Ga,mem_ready->Lx,KeepsFrom->Md,Fence->Nh,Program->Ov,IntKind->Oz,Addr->P1,grownBy_putObj'->P2,TypeId->P3,KeepsOthers->P4,Calls->P5
open Go.RowKit renaming Below->P6
open Go.RowKit.Below renaming refl->P7,heap_setCell->P8
open Go.Region renaming ready->P9,wanted->PC,binds->PD
open _root_.Nat renaming mul_le_mul->PE,le_trans->PF,le_refl->PG,reduceSub->PH,reduceAdd->PI
open Go.Proofs.Tryz renaming prog->PJ,func244->PK
open Go.Value renaming ownBlock->PL
open Go.CallsIn renaming mono->PM,inRound->PN
open Go.Fence renaming wide->PO
variable {B i j k m n:Nat}{G1:B3->BK->Prop}{G2:B3->Prop}{L:Array Bool}{Q:Exit->Act->B3->Prop}{W W' w w0:B3}{a:Act}{u v z0 z1 z16 z17 z18 z19 z2 z20 z3 z4 z42:BK}
section
attribute [local go_sem ↓] Go.wp_at_zero Go.wp_at_succ
theorem Gz {s:List Rw}{x:Rw}(t:List Rw)(h:s[i]?=some x):d8 (s.take (i+1)) t=d8 (s.take i) t++jH x t:=by
 unfold d8;rw[gL h,qA];simp
theorem Jv {t:List Rw}{x y:Rw}(h:t[k]?=some y)(e:x.1.1.1=y.1.1.1):jH x (t.take (k+1))=jH x (t.take k)++[(ED x.1 y.1,x.2*y.2)]:=by
 unfold jH;rw[gL h,lY,kR];simp[e]
theorem M0 {t:List Rw}{x y:Rw}(h:t[k]?=some y)(e:x.1.1.1≠y.1.1.1):jH x (t.take (k+1))=jH x (t.take k):=by
 unfold jH;rw[gL h,lY,kR];simp[e]
theorem Ky (x:Rw)(t:List Rw):(jH x t).length<=t.length:=by unfold jH;rw[mF];exact oO _ _
theorem Dr {a b:Int}(ha: -99999<=a/\a<=99999)(g: -99999<=b/\b<=99999): -10000000000<=a*b/\a*b<=10000000000:=by
 have h1:(a*b).natAbs<=99999*99999:=by rw[Int.natAbs_mul];exact PE (by omega) (by omega)
 omega
theorem IM {s t:List Rw}(hs:aR s=true)(g:aR t=true):aM (d8 s t)<=1600000000000000:=by
 have h1:=zJ (mY hs) (mY g);omega
theorem Kd {s t:List Rw}(hs:aR s=true)(g:aR t=true):∀r∈d8 s t,spOk r.1:=fun r hr=>by
 obtain⟨⟨h1,h2,h3,h4⟩,h5⟩:=Iu hs g r hr;rw[eL]at h5;unfold spOk nS;omega
theorem FN (v u:BK)(s t:List Rw)(w:B3)(h:Rs w v s)(h':Rs w u t)(hk:aR s=true)(U:aR t=true):
  P5 PJ 189 #[v,u] w fun e w'=>∃o:BK,e=.returned o/\aD w' w.heap.size o (aP aQ (d8 s t))/\P6 w.heap.size w w':=by
 have oE:=dW w rfl;have y1:=aG (P7 _ w) (.cells #[] 55);have e6:=fP hk;have u0:=fP U;have w6:Hid (∀(k:Nat)(K V A B D:Int),s[k]?=some (((K,V),(A,B)),D)->0<=K/\K<=3/\0<=V/\V<=99/\bH A B=true):=Au hk;have w5:Hid (∀(k:Nat)(K V A B D:Int),t[k]?=some (((K,V),(A,B)),D)->0<=K/\K<=3/\0<=V/\V<=99/\bH A B=true):=Au U;have HL:Hid (∀i,(d8 (s.take i) t).length<=160000):=fun i=>by
  have h1:=xD (s.take i) t;have h2:(s.take i).length*t.length<=400*400:=PE (by rw[nU];omega) u0;omega
 have HA:Hid (aM (d8 s t)<=1600000000000000):=IM hk U;have a3:Hid (∀(k:Nat)(r:Rw),s[k]?=some r -> -99999<=r.2/\r.2<=99999):=fun k r hr=>lG (eY hk (lI hr));have a2:Hid (∀(k:Nat)(r:Rw),t[k]?=some r -> -99999<=r.2/\r.2<=99999):=fun k r hr=>lG (eY U (lI hr));obtain⟨aS,cS,rfl,f2,v5,d5,Z⟩:=Rs.open h;obtain⟨aT,cT,rfl,f1,v4,c9,Y⟩:=Rs.open h';unfold maxLen at v5 v4;have w9:=(show Hid _ from Z);have w8:=(show Hid _ from Y);clear Z Y h h' hk U;go_enter Tryz.func189,Tryz.ntmps189;go_wp2_with fail
 go_loopw [5,6] (fun o i wr=>∃k:Nat,k<=s.length/\i=.int .i64 k/\aD wr w.heap.size o (d8 (s.take k) t)/\P6 w.heap.size w wr) (fun _ i _=>s.length-(intOf i).toNat)
 case atStart=>exact⟨0,by omega,rfl,by simpa[d8]using oE,y1⟩
 case round=>
  clear oE y1;obtain⟨i,e9,rfl,G,M⟩:=hrel;have HO:Hid (aD wr w.heap.size u5 (d8 (s.take i) t)):=G;clear G
  by_cases v6:i<s.length
  ·obtain⟨g,off,K,V,A,B,D,rfl,hg,hr,c0,c1,c2,c3,c4⟩:=w9.out i v6;have ii:((i:Int)<(s.length:Int)):=by omega
   have HZ:=(show Hid _ from Gz t hr);obtain⟨i1,i2,i3,i4,-⟩:=w6.out i _ _ _ _ _ hr;obtain⟨y6,y5⟩:=a3.out i _ hr;simp only at y6 y5;have f3:=HL.out i;clear hr;generalize hP:d8 (s.take i) t=P at*;clear hP;go_wp2_with fail
   go_loopw [5,7] (fun o i wr=>∃k:Nat,k<=t.length/\i=.int .i64 k/\aD wr w.heap.size o (P++jH (((K,V),(A,B)),D) (t.take k))/\P6 w.heap.size w wr) (fun _ i _=>t.length-(intOf i).toNat)
   case atStart=>exact⟨0,by omega,rfl,by have:=HO.out;simpa[jH]using this,M⟩
   case round=>
    clear HO M;obtain⟨k,e8,rfl,G,M⟩:=hrel
    by_cases z9:k<t.length
    ·obtain⟨O,F,K2,V2,A2,B2,D2,rfl,f0,R,p0,p1,p2,p3,p4⟩:=w8.out k z9;have ik:((k:Int)<(t.length:Int)):=by omega
     obtain⟨j1,j2,j3,j4,-⟩:=w5.out k _ _ _ _ _ R;obtain⟨y4,y3⟩:=a2.out k _ R;simp only at y4 y3;have f4:(P++jH (((K,V),(A,B)),D) (t.take k)).length<=500000:=by
      have:=Ky (((K,V),(A,B)),D) (t.take k);rw[mJ];simp at this;omega
     have HX:Hid (∀W,P6 w.heap.size w W->(W.cell? ⟨g,off+i*5,none⟩=some (.int .i64 K)/\W.cell? ⟨g,off+i*5+1,none⟩=some (.int .i64 V)/\W.cell? ⟨g,off+i*5+2,none⟩=some (.int .i64 A)/\W.cell? ⟨g,off+i*5+3,none⟩=some (.int .i64 B)/\W.cell? ⟨g,off+i*5+4,none⟩=some (.int .i64 D)) /\
       W.cell? ⟨O,F+k*5,none⟩=some (.int .i64 K2)/\W.cell? ⟨O,F+k*5+1,none⟩=some (.int .i64 V2)/\W.cell? ⟨O,F+k*5+2,none⟩=some (.int .i64 A2)/\W.cell? ⟨O,F+k*5+3,none⟩=some (.int .i64 B2)/\W.cell? ⟨O,F+k*5+4,none⟩=some (.int .i64 D2)):=
      fun W I=>⟨⟨cB I c0,cB I c1,cB I c2,cB I c3,cB I c4⟩,cB I p0,cB I p1,cB I p2,cB I p3,cB I p4⟩
     obtain⟨⟨d0,-,-,-,-⟩,e0,-,-,-,-⟩:=HX.out _ M
     by_cases hK:K=K2
     ·subst hK;have HY:=(show Hid _ from Jv (x:=(((K,V),(A,B)),D)) R rfl);have e5:=Dr ⟨y6,y5⟩ ⟨y4,y3⟩;have iw:Oz.i64.wrap (D*D2)=D*D2:=by rw[Oz.wrap_i64]<;>omega
      clear p0 p1 p2 p3 p4 R;simp only[ED]at HY;generalize x3:P++jH (((K,V),(A,B)),D) (t.take k)=T at*;have v0:Hid (P++jH (((K,V),(A,B)),D) (t.take k)=T):=x3;clear x3;have x5:Hid (aD wr w.heap.size u5 T):=G;clear G;go_wp2_with fail
      go_quiet (fail)
      have x2:P6 w.heap.size w (wr.drewN nq):=dC M _;have v7:T.length<=2000000:=by omega
      have H:P6 w.heap.size w (wr.drewN (nq+1))/\aD (wr.drewN (nq+1)) w.heap.size u5 T:=⟨dC M _,bJ x5.out (dC (P7 _ _) _)⟩;have y7:Hid (∀W wc,(P6 w.heap.size w W/\aD W w.heap.size u5 T)->P6 W.heap.size W wc->(P6 w.heap.size w wc/\aD wc w.heap.size u5 T)):=fun W wc I S=>⟨aH I.1 S,bJ I.2 S⟩;have a1:Hid (∀(wc w7:B3)(ob:Obj),(P6 w.heap.size w wc/\aD wc w.heap.size u5 T)->(wc.alloc ob).grownBy w7 u5.ownBlock->P6 w.heap.size w w7):=fun wc w7 ob h1 h3=>
       Below.aO (aG h1.1 _) h3 (aG h1.1 ob).size (oB h1.2)
      have a0:Hid (∀(wc:B3)(ob:Obj),(P6 w.heap.size w wc/\aD wc w.heap.size u5 T)->w.heap.size<=(wc.alloc ob).heap.size):=fun wc ob h1=>(aG h1.1 ob).size;clear d0 e0;obtain⟨⟨d0,d1,d2,d3,d4⟩,e0,e1,e2,e3,e4⟩:=HX.out _ x2;go_wp2_with fail
      go_region_held3 (fun W=>(W.cell? ⟨g,off+i*5,none⟩=some (.int .i64 K)/\W.cell? ⟨g,off+i*5+1,none⟩=some (.int .i64 V)/\W.cell? ⟨g,off+i*5+2,none⟩=some (.int .i64 A)/\W.cell? ⟨g,off+i*5+3,none⟩=some (.int .i64 B)/\W.cell? ⟨g,off+i*5+4,none⟩=some (.int .i64 D)) /\
        W.cell? ⟨O,F+k*5,none⟩=some (.int .i64 K)/\W.cell? ⟨O,F+k*5+1,none⟩=some (.int .i64 V2)/\W.cell? ⟨O,F+k*5+2,none⟩=some (.int .i64 A2)/\W.cell? ⟨O,F+k*5+3,none⟩=some (.int .i64 B2)/\W.cell? ⟨O,F+k*5+4,none⟩=some (.int .i64 D2))
       (first|exact HX.out _ y2|exact HX.out _ H.1|exact HX.out _ (aG H.1 _))
       (first
        | (go_at_call 229;with_reducible refine (Hd i3 i4 j3 j4 _).mono ?_;rintro e wc ⟨rfl,S⟩;replace H:=y7.out _ _ H S)
        | (go_at_call 130;with_reducible refine (m6 A B A2 B2 _).mono ?_;rintro e wc ⟨rfl,S⟩;replace H:=y7.out _ _ H S)
        | (refine nX _ (by rfl) _ _ (by rfl) w.heap.size _ T (by rfl) (H.2.alloc _) _ K (pv V V2) (iE A B A2 B2) (iF A B A2 B2) (D*D2) (by rfl) (Bk.new _ _ rfl) v7 (a0.out _ _ H) ?_;intro g7 b4 w7 z8 x7 e7;have y2:=a1.out _ _ _ H x7))
      all_goals
       go_wp2_with fail;go_roundw
       case rel=>exact⟨k+1,by omega,by go_num,by rw[HY.out,<-sH,v0.out];exact z8,y2⟩
       case measure=>simp[intOf];omega
     ·have HY:=(show Hid _ from M0 (x:=(((K,V),(A,B)),D)) R hK);have nx:(K==K2)=false:=beq_eq_false_iff_ne.2 hK;have x5:Hid (aD wr w.heap.size u5 (P++jH (((K,V),(A,B)),D) (t.take k))):=G;clear p0 p1 p2 p3 p4 R G;go_wp2_with fail
      go_quiet (fail)
      have x2:P6 w.heap.size w (wr.drewN nq):=dC M _;go_wp2_with fail;go_roundw
      case rel=>exact⟨k+1,by omega,by go_num,by rw[HY.out];exact bJ x5.out (dC (P7 _ _) _),x2⟩
      case measure=>simp[intOf];omega
    ·obtain rfl:k=t.length:=by omega
     rw[kX]at G;rw[<- HZ.out]at G;go_wp2_with fail;go_roundw
     case rel=>exact⟨i+1,by omega,by go_num,G,M⟩
     case measure=>simp[intOf];omega
  ·obtain rfl:i=s.length:=by omega
   have y0:=HL.out s.length;have R1:Rs wr u5 (d8 s t):=by have:=HO.out;rw[kX]at this y0;exact aD.rs this (by omega)
   rw[kX]at y0;have v3:=M.size;clear HO;go_wp2_with fail;refine (k9 _ (d8 s t) _ R1 (by omega) (by have:=HA.out;omega)).mono ?_;rintro e w3 ⟨o3,rfl,x0,v8⟩;have O3:Hid (aD w3 wr.heap.size o3 (aP aQ (d8 s t))):=x0;clear x0;go_wp2_with fail;go_ret;exact⟨_,rfl,bQ O3.out v3,aH M v8⟩
open Go.Shelf
attribute [local go_sem] E0.semAt_some
def cA (W:B3)(m:Nat):Option Nat:=(W.cell? ⟨m,0,none⟩).bind PL
structure iK (m:Nat)(W W':B3):Prop where
 size:W.heap.size<=W'.heap.size
 keep:∀(k:Nat)(o:Obj),W.heap[k]?=some o->o.isCells=true->k≠m->cA W m≠some k->W'.heap[k]?=some o
 arr:cA W' m=cA W m\/∃q,cA W' m=some q/\W.heap.size<=q/\q<W'.heap.size
theorem iK.trans {A B C:B3}(h:iK m A B)(k:iK m B C):iK m A C where
 size:=PF h.size k.size
 keep i o hi ho hm ha:=by
  have G:=(fD.1 hi).1;refine k.keep i o (h.keep i o hi ho hm ha) ho hm ?_
  rcases h.arr with e|⟨q,e,hq,_⟩
  ·rw[e];exact ha
  ·rw[e];intro F;cases F;omega
 arr:=by
  rcases k.arr with e|⟨q,e,hq,g⟩
  ·rcases h.arr with s|⟨q,s,hq,g⟩
   ·exact .inl (e.trans s)
   ·exact .inr ⟨q,e.trans s,hq,Nat.lt_of_lt_of_le g k.size⟩
  ·exact .inr ⟨q,e,PF h.size hq,g⟩
theorem aB (h:W'.heap[m]?=W.heap[m]?):cA W' m=cA W m:=by
 unfold cA;rw[B3.cell?_of_block (w:=W) h]
theorem iK.put (W:B3)(l:Nat)(o s:Obj)(hm:m<l)(h:W.heap[l]?=some o)(ho:o.isCells=false):iK m W (W.putObj l s):=by
 have hg:=P2 W l s;have hl:=(fD.1 h).1;refine⟨hg.size,fun k q g hq _ _=>?_,.inl (aB (hg.block m (by omega) (fun e=>by cases e;omega)))⟩;rw[hg.block k (fD.1 g).1 (fun e=>by cases e;rw[h]at g;cases g;rw[ho]at hq;cases hq)];exact g
theorem iK.bk {c:Array BK}{t:P3}(h:iK m W W')(s:Bk W k c t)(g:k≠m)(ha:cA W m≠some k):Bk W' k c t:=h.keep k _ s rfl g ha
def Kc (w W:B3):Prop:=∀(k:Nat)(o:Obj),w.heap[k]?=some o->o.isCells=true->W.heap[k]?=some o
theorem Kc.aA (h:P6 w.heap.size w W):Kc w W:=fun k o g _=>by rw[h.block k (fD.1 g).1];exact g
theorem Kc.step (h:Kc w W)(s:P6 W.heap.size W W'):Kc w W':=fun k o g ho=>by
 have h1:=h k o g ho;rw[s.block k (fD.1 h1).1];exact h1
theorem Kc.dy (h:Kc w W)(s:iK m W W')(hm:w.heap.size<=m)(ha:∀q,cA W m=some q->w.heap.size<=q):Kc w W':=fun k o g ho=>by
 have F:=(fD.1 g).1;exact s.keep k o (h k o g ho) ho (by omega) (fun e=>by have:=ha k e;omega)
theorem Kc.cell (h:Kc w W){g:Nat}(s:w.cell? ⟨g,i,none⟩=some v):W.cell? ⟨g,i,none⟩=some v:=by
 have F:=lC s;have e:w.heap[g]?=some w.heap[g]:=fV F;have ho:w.heap[g].isCells=true:=by
  unfold B3.cell? at s;simp only[e]at s
  revert s
  cases w.heap[g]<;>simp[Obj.isCells]
 rw[B3.cell?_of_block (w:=w) ((h g _ e ho).trans e.symm)];exact s
theorem iK.below (h:P6 W.heap.size W W')(hm:m<W.heap.size):iK m W W':=
 ⟨h.size,fun k _ g _ _ _=>by rw[h.block k (fD.1 g).1];exact g,.inl (aB (h.block m hm))⟩
theorem iK.grow {g:B3}{t:P3}(s:Bk W m #[v] t)(hg:W.grownBy g v.ownBlock)(O:v.ownBlock≠some m)(R:u.ownBlock=v.ownBlock\/∃q,u.ownBlock=some q/\W.heap.size<=q/\q<g.heap.size):
  iK m W (g.setCell ⟨m,0,none⟩ u):=by
 have hm:=s.lt;have e0:cA W m=v.ownBlock:=by unfold cA;rw[s.cell (i:=0) (v:=v) rfl];rfl
 have M:Bk g m #[v] t:=by
  unfold Bk;rw[hg.block m hm (fun e=>O e.symm)];exact s
 have I:=M.set 0 u;have S:cA (g.setCell ⟨m,0,none⟩ u) m=u.ownBlock:=by unfold cA;rw[I.cell (i:=0) (v:=u) (by simp)];rfl
 have F:(g.setCell ⟨m,0,none⟩ u).heap.size=g.heap.size:=by simp
 refine⟨by rw[F];exact hg.size,fun k o H _ G ha=>?_,?_⟩
 ·rw[P8 _ _ _ _ (show k≠(⟨m,0,none⟩:P1).block from G),hg.block k (fD.1 H).1 (fun e=>ha (by rw[e0,e]))];exact H
 ·rw[S,e0,F];exact R
def iZ (x:Rw)(t:List Rw):List (Rw×Rw):=(t.filter fun y=>decide (x.1.1.1=y.1.1.1)).map fun y=>(x,y)
def rW (s t:List Rw):List (Rw×Rw):=s.flatMap fun x=>iZ x t
theorem KT {s:List Rw}{x:Rw}(t:List Rw)(h:s[i]?=some x):rW (s.take (i+1)) t=rW (s.take i) t++iZ x t:=by
 unfold rW;rw[gL h,qA];simp
theorem Im {t:List Rw}{x y:Rw}(h:t[k]?=some y)(e:x.1.1.1=y.1.1.1):iZ x (t.take (k+1))=iZ x (t.take k)++[(x,y)]:=by
 unfold iZ;rw[gL h,lY,kR];simp[e]
theorem KE {t:List Rw}{x y:Rw}(h:t[k]?=some y)(e:x.1.1.1≠y.1.1.1):iZ x (t.take (k+1))=iZ x (t.take k):=by
 unfold iZ;rw[gL h,lY,kR];simp[e]
theorem CW (x:Rw)(t:List Rw):(iZ x t).length<=t.length:=by unfold iZ;rw[mF];exact oO _ _
theorem Mq (s t:List Rw):(rW s t).length<=s.length*t.length:=by
 induction s with
 | nil=>simp[rW]
 | cons x s ih=>
  show (iZ x t++rW s t).length<=_
  have:=CW x t;rw[mJ,oJ,Nat.add_mul];omega
def CO (p:Rw×Rw):Rw:=(ED p.1.1 p.2.1,p.1.2*p.2.2)
theorem Jq (s t:List Rw):(rW s t).map CO=d8 s t:=by
 unfold rW d8 iZ jH
 induction s with
 | nil=>rfl
 | cons x s ih=>simp only[List.flatMap_cons,kR,ih,AT];rfl
abbrev XP:={ p:Rw×Rw // cU p.1=true/\cU p.2=true/\p.1.1.1.1=p.2.1.1.1 }
abbrev Ld (r:Rw):BK:=rv r.1.1.1 r.1.1.2 r.1.2.1 r.1.2.2 r.2
abbrev NC (z:XP):Array BK:=#[Ld z.1.1,Ld z.1.2]
theorem Id (a b:Option P1)(n m s g:Nat)(w:B3):
  P5 PJ 222 #[.slice a n s,.slice b m g] w fun e F=>e=.returned (.func (.func 244) #[] #[.pointer (some ⟨w.heap.size,0,none⟩),.pointer (some ⟨w.heap.size+1,0,none⟩)])/\F=(w.alloc (.cells #[.slice a n s] 28)).alloc (.cells #[.slice b m g] 28):=by
 go_enter Tryz.func222,Tryz.ntmps222;go_wp2_with fail;go_ret;exact⟨rfl,rfl⟩
attribute [local go_sem] E0.semAt_some
theorem Ji (lp b1 b2 m N:Nat)(a b:Option P1)(y9 T:Nat)(s t:List Rw)(J Jx:List XP->B3->Prop)(w W:B3)
  (hJ:∀pre A B,J pre A->P6 A.heap.size A B->J pre B)
  (hY:∀pre z W,J pre W->pre.length<160000->YieldAt PO (3-1) PJ lp (NC z) W fun e W'=>
   (e=.returned (.bool true)/\J (pre++[z]) W'/\iK m W W')\/(e=.returned (.bool false)/\Jx (pre++[z]) W'))
  (hk:aR s=true) (y8:aR t=true) (v1:Rs w (.slice a s.length y9) s) (v0:Rs w (.slice b t.length T) t) (a2:w.heap.size<=m) (g3:m<N) (v2:N<=W.heap.size) (F:Kc w W)
  (u4:Bk W b1 #[.slice a s.length y9] 28) (I:Bk W b2 #[.slice b t.length T] 28) (i0:b2<N) (b4:b2≠m) (u8:cA W m=none) (h0:J [] W):
  Ga PO 3 PJ 244 #[.func (.yield lp) #[] #[],.pointer (some ⟨b1,0,none⟩),.pointer (some ⟨b2,0,none⟩)] W fun e W'=>(∃v,e=.returned v) /\
   ((∃ys:List XP,ys.map (·.1)=rW s t/\J ys W')\/(∃pre,True/\Jx pre W')):=by
 have d0:=u4.cell (i:=0) (v:= .slice a s.length y9) rfl;have hl:=fP hk;have a5:=fP y8;have d3:Hid (∀(k:Nat)(r:Rw),s[k]?=some r->cU r=true):=fun k r hr=>eY hk (lI hr);have c9:Hid (∀(k:Nat)(r:Rw),t[k]?=some r->cU r=true):=fun k r hr=>eY y8 (lI hr);have b9:Hid (∀i,i<s.length->∀j,j<=t.length->∀x,(rW (s.take i) t++iZ x (t.take j)).length<=159999+1/\(j<t.length->(rW (s.take i) t++iZ x (t.take j)).length<160000)):=fun i hi j hj x=>by
  have h1:=Mq (s.take i) t;have h2:=CW x (t.take j);have h3:(s.take i).length*t.length<=399*400:=PE (by rw[nU];omega) a5;rw[nU]at h2;rw[mJ];omega
 obtain⟨a',c',e,hc,hm,hn,h9⟩:=Rs.open v1;cases e;obtain⟨a',c',e,g7,a4,g1,U⟩:=Rs.open v0;cases e;unfold maxLen at hm a4;have HC:=(show Hid _ from h9);have HD:=(show Hid _ from U);clear h9 U v1 v0 hk y8;refine callsIn_of_wp PK rfl trivial ?_ rfl;simp only[Tryz.ntmps244,sE,oJ,wR,PI,PH,iC,gZ,sG,rN,wH,sI]
 gi_wp2
 gi_loopw [10] (fun i wr=>∃(k:Nat)(pre:List XP),k<=s.length/\i=.int .i64 k/\pre.map (·.1)=rW (s.take k) t/\J pre wr/\Kc w wr/\N<=wr.heap.size/\Bk wr b2 #[.slice b t.length T] 28/\(∀q,cA wr m=some q->N<=q/\q<wr.heap.size)) (fun i _=>s.length-(intOf i).toNat)
 case atStart=>exact⟨0,[],by omega,rfl,by simp[rW],h0,F,v2,I,fun q e=>by rw[u8]at e;cases e⟩
 case round=>
  clear d0 h0 F v2 I u4 u8;obtain⟨i,pre,g4,rfl,H,R,F,x8,I,S⟩:=hrel
  by_cases z9:i<s.length
  ·obtain⟨g,off,K,V,A,B,D,rfl,hg,hr,c0,c1,c2,c3,c4⟩:=HC.out i z9;have HR:=(show Hid _ from hr);have q0:=F.cell c0;have q1:=F.cell c1;have q2:=F.cell c2;have q3:=F.cell c3;have q4:=F.cell c4;have ii:((i:Int)<(s.length:Int)):=by omega
   have G:P6 wr.heap.size wr (wr.alloc (.cells #[.int .i64 K,.int .i64 V,.int .i64 A,.int .i64 B,.int .i64 D] 55)):=aG (P7 _ _) _;have v3:Bk (wr.alloc (.cells #[.int .i64 K,.int .i64 V,.int .i64 A,.int .i64 B,.int .i64 D] 55)) wr.heap.size #[.int .i64 K,.int .i64 V,.int .i64 A,.int .i64 B,.int .i64 D] 55:=Bk.new _ _ rfl;have M:=I.keep G;have x5:=F.step G;have x6:=hJ _ _ _ R G;have e2:=M.cell (i:=0) (v:= .slice b t.length T) rfl;have O:∀q,cA (wr.alloc (.cells #[.int .i64 K,.int .i64 V,.int .i64 A,.int .i64 B,.int .i64 D] 55)) m=some q->N<=q/\q<(wr.alloc (.cells #[.int .i64 K,.int .i64 V,.int .i64 A,.int .i64 B,.int .i64 D] 55)).heap.size/\q≠wr.heap.size:=fun q e=>by
    rw[aB (G.block m (by omega))]at e;have:=S q e;refine⟨this.1,?_,by omega⟩;simp;omega
   have x9:N<=(wr.alloc (.cells #[.int .i64 K,.int .i64 V,.int .i64 A,.int .i64 B,.int .i64 D] 55)).heap.size:=by simp;omega
   have g8:N<=wr.heap.size:=x8;clear c0 c1 c2 c3 c4 hr I F R S G
   gi_wp2
   clear q0 q1 q2 q3 q4 e2 x8;generalize wr.heap.size=xb at*;generalize B3.alloc _ _=wx at*
   gi_loopw [16] (fun j wr=>∃(k:Nat)(pre:List XP),k<=t.length/\j=.int .i64 k/\pre.map (·.1)=rW (s.take i) t++iZ (((K,V),(A,B)),D) (t.take k)/\J pre wr/\Kc w wr/\N<=wr.heap.size/\Bk wr b2 #[.slice b t.length T] 28/\Bk wr xb #[.int .i64 K,.int .i64 V,.int .i64 A,.int .i64 B,.int .i64 D] 55/\(∀q,cA wr m=some q->N<=q/\q<wr.heap.size/\q≠xb)) (fun j _=>t.length-(intOf j).toNat)
   case atStart=>exact⟨0,pre,by omega,rfl,by rw[H];simp[iZ],x6,x5,x9,M,v3,O⟩
   case round=>
    clear x6 x5 x9 M v3 O H;obtain⟨k,pre,a6,rfl,H,R,F,x8,I,u0,S⟩:=hrel
    by_cases y7:k<t.length
    ·obtain⟨g2,f1,K2,V2,A2,B2,D2,rfl,g5,z8,c0,c1,c2,c3,c4⟩:=HD.out k y7;have z6:=(show Hid _ from z8);have q0:=F.cell c0;have q1:=F.cell c1;have q2:=F.cell c2;have q3:=F.cell c3;have q4:=F.cell c4;have ik:((k:Int)<(t.length:Int)):=by omega
     have G:P6 wr.heap.size wr (wr.alloc (.cells #[.int .i64 K2,.int .i64 V2,.int .i64 A2,.int .i64 B2,.int .i64 D2] 55)):=aG (P7 _ _) _;have b5:Bk (wr.alloc (.cells #[.int .i64 K2,.int .i64 V2,.int .i64 A2,.int .i64 B2,.int .i64 D2] 55)) wr.heap.size #[.int .i64 K2,.int .i64 V2,.int .i64 A2,.int .i64 B2,.int .i64 D2] 55:=Bk.new _ _ rfl;have M:=I.keep G;have Y:=u0.keep G;have x5:=F.step G;have x6:=hJ _ _ _ R G;have O:∀q,cA (wr.alloc (.cells #[.int .i64 K2,.int .i64 V2,.int .i64 A2,.int .i64 B2,.int .i64 D2] 55)) m=some q->N<=q/\q<(wr.alloc (.cells #[.int .i64 K2,.int .i64 V2,.int .i64 A2,.int .i64 B2,.int .i64 D2] 55)).heap.size/\q≠xb:=fun q e=>by
      rw[aB (G.block m (by omega))]at e;have:=S q e;refine⟨this.1,?_,this.2.2⟩;simp;omega
     have x9:N<=(wr.alloc (.cells #[.int .i64 K2,.int .i64 V2,.int .i64 A2,.int .i64 B2,.int .i64 D2] 55)).heap.size:=by simp;omega
     have f2:=Y.lt;obtain⟨x0,x1,x2,x3,x4⟩:=Y.aa;obtain⟨y0,y1,y2,y3,y4⟩:=b5.aa;clear c0 c1 c2 c3 c4 z8 I F R S G u0
     by_cases hK:K=K2
     ·subst hK;have g9:=(b9.out i z9 k a6 (((K,V),(A,B)),D)).2 y7;have a3:pre.length<160000:=by have h1:=congrArg List.length H;simp only[mF]at h1;omega
      have HZ:Hid (iZ (((K,V),(A,B)),D) (t.take (k+1))=iZ (((K,V),(A,B)),D) (t.take k)++[((((K,V),(A,B)),D),(((K,V2),(A2,B2)),D2))]):=Im z6.out rfl;have y6:=d3.out i _ HR.out;have y5:=c9.out k _ z6.out;obtain⟨fn,tmps,assign,body,hy,hR⟩:=hY pre ⟨((((K,V),(A,B)),D),(((K,V2),(A2,B2)),D2)),y6,y5,rfl⟩ _ x6 a3
      gi_wp2
      refine hR.mono ?_;rintro e W3 (⟨rfl,a8,Z⟩|⟨rfl,w6⟩)
      ·have w3:=Z.bk M b4 (fun e=>by have:=O _ e;omega);have w2:=Z.bk Y (by omega) (fun e=>(O _ e).2.2 rfl);have a7:=x5.dy Z a2 (fun q e=>by have:=O q e;omega);have g0:=Z.size;have b3:∀q,cA W3 m=some q->N<=q/\q<W3.heap.size/\q≠xb:=fun q e=>by
        rcases Z.arr with e1|⟨q',e1,h1,h2⟩
        ·rw[e1]at e;have:=O q e;exact⟨this.1,by omega,this.2.2⟩
        ·rw[e1]at e;cases e;exact⟨by omega,h2,by omega⟩
       clear hR hy x0 x1 x2 x3 x4 y0 y1 y2 y3 y4 q0 q1 q2 q3 q4
       gi_wp2
       go_roundw
       case rel=>exact⟨k+1,pre++[⟨((((K,V),(A,B)),D),(((K,V2),(A2,B2)),D2)),y6,y5,rfl⟩],by omega,by go_num,by rw[HZ.out,kR,H,sH];rfl,a8,a7,by omega,w3,w2,b3⟩
       case measure=>simp[intOf];omega
      ·clear hR hy
       gi_wp2
       refine bodyPost_ret (results_none rfl _ _ _) rfl ?_;exact⟨⟨_,rfl⟩,.inr ⟨_,trivial,w6⟩⟩
     ·have HZ:Hid (iZ (((K,V),(A,B)),D) (t.take (k+1))=iZ (((K,V),(A,B)),D) (t.take k)):=KE z6.out hK;have nx:(K==K2)=false:=beq_eq_false_iff_ne.2 hK
      gi_wp2
      refine⟨fun _ h=>(by cases h),?_⟩
      gi_wp2
      go_roundw
      case rel=>exact⟨k+1,pre,by omega,by go_num,by rw[HZ.out];exact H,x6,x5,x9,M,Y,O⟩
      case measure=>simp[intOf];omega
    ·obtain rfl:k=t.length:=by omega
     gi_wp2
     go_roundw
     case rel=>exact⟨i+1,pre,by omega,by go_num,by rw[H,kX,<-KT t HR.out],R,F,x8,I,fun q e=>⟨(S q e).1,(S q e).2.1⟩⟩
     case measure=>simp[intOf];omega
  ·obtain rfl:i=s.length:=by omega
   gi_wp2
   go_end0
   exact⟨⟨_,rfl⟩,.inl ⟨pre,by rw[H,kX],R⟩⟩
theorem F2 (b1 b2 m:Nat)(a b:Option P1)(G F:Nat)(s t:List Rw)(w w0:B3)(hk:aR s=true)(M:aR t=true)(T:Rs w (.slice a s.length G) s)(S:Rs w (.slice b t.length F) t)
  (I:w.heap.size<=m) (hm:m<w0.heap.size) (U:Kc w w0) (O:Bk w0 b1 #[.slice a s.length G] 28) (H:Bk w0 b2 #[.slice b t.length F] 28) (Y:b2≠m) (R:cA w0 m=none):
  SeqStopsK PO 3 PJ 244 #[.pointer (some ⟨b1,0,none⟩),.pointer (some ⟨b2,0,none⟩)] NC (iK m) (fun Z=>Z.map (·.1)=rW s t) (fun _=>True) 160000 w0:=
 fun lp J Jx W g hJ _ hY h0=>
  Ji lp b1 b2 m w0.heap.size a b G F s t J Jx w W (fun pre A B h hb=>hJ pre A B none h (yZ hb) (fun r e=>by cases e)) hY hk M T S I hm g.size (U.step g)
   (O.keep g) (H.keep g) H.lt Y (by rw[aB (g.block m hm)];exact R) h0
theorem FU {F:Nh}{P:Ov}{G:Region.Mode}{ops:Array E0}(Inv:Array Bool->Act->B3->Prop)
  (hg:∀(i:Nat)(o:E0),ops[i]?=some o->o.guard=none)
  (hs:∀L a w,Inv L a w->L.size=ops.size)
  (hstep:∀L a w (i:Nat) (o:E0),Inv L a w->i∈P9 G ops L->ops[i]?=some o->o.wpIn F n P a w (fun a' O=>Inv (L.setIfInBounds i true) a' O) Q)
  (hend:∀L a w,Inv L a w->P9 G ops L=[]->Q .normal a w):
  ∀(g:Nat)(L:Array Bool)(a:Act)(w:B3),sP L<=g->Inv L a w->wpAnyIn F n P G ops Q g L a w:=by
 have I:∀L a w i,Inv L a w->i∈P9 G ops L->L[i]?=some false:=fun L a w i s hi=>by
  obtain⟨h1,o,ho,_⟩:=Lx.1 hi;have M:i<L.size:=by rw[hs L a w s];exact (fD.1 ho).1
  rw[fV M];simp[M]at h1;rw[h1]
 intro g
 induction g with
 | zero=>
  intro L a w T s;have H:P9 G ops L=[]:=by
   cases hr:P9 G ops L with
   | nil=>rfl
   | cons i r=>
    have:=FW (I L a w i s (by rw[hr];simp));omega
  exact⟨H,hend L a w s H⟩
 | succ g ih=>
  intro L a w T s;refine⟨fun H=>hend L a w s H,fun i hi=>?_⟩;obtain⟨_,o,ho,_⟩:=Lx.1 hi;have h1:=hstep L a w i o s hi ho;have S:PC o (yielded ops a.tmps)=true:=by simp[PC,hg i o ho]
  unfold wpOpIn;rw[ho];simp only[S,if_true];refine E0.wpIn_mono (fun a' O R=>?_) h1;have:=yQ (I L a w i s hi);exact ih _ a' O (by omega) R
theorem At {F:Nh}{P:Ov}{ops:Array E0}{id:Nat}(hm:P.follows .mixedOrders=true)(Inv:Array Bool->Act->B3->Prop)
  (hg:∀(i:Nat)(o:E0),ops[i]?=some o->o.guard=none)
  (hs:∀L a w,Inv L a w->L.size=ops.size)
  (h0:Inv (jU ops.size false) a w.drew)
  (hstep:∀L a w (i:Nat) (o:E0),Inv L a w->i∈P9 .any ops L->ops[i]?=some o->o.wpIn F n P a w (fun a' g=>Inv (L.setIfInBounds i true) a' g) Q)
  (hend:∀L a w,Inv L a w->P9 .any ops L=[]->Q .normal a w):(Code.region id ops true).wpIn F n P Q a w:=
 wpIn_region_any hm (FU Inv hg hs hstep hend ops.size _ _ _ (by rw[BQ];exact PG _) h0)
theorem zP {l:Nat}{P:Ov}{o:E0}{K:Act->B3->Prop}(s x:Operand)(t:P3)(ho:o.op=.call { callee:= .builtin .append,args:=#[s,x],argTypes:=#[t,t] })
  {g:BK} (hs:a.eval s=v) (hx:a.eval x=g) (hr:(Builtin.append_ #[t,t] o.type #[v,g]).run P W=.ok u W') (h:K (a.put o.dst u) W'):o.wpIn (PO.inRound l) n P a W K Q:=by
 refine⟨fun f _=>trivial,?_⟩;rw[E0.semAt_eq _ _ _ (fun c e=>by rw[ho]at e;cases e)];unfold execOp;simp[ho,resolve,invoke,builtin,hs,hx,hr,Result.andThen];exact h
def DC (ops:Array E0)(L:Array Bool):Prop:=∀(i:Nat)(o:E0),ops[i]?=some o->L.getD i false=true->∀e∈o.after,PD .any e=true->L.getD e.on false=true
theorem Jr (h:(L.setIfInBounds i true).getD j false=true):j=i\/L.getD j false=true:=by
 by_cases e:j=i
 ·exact .inl e
 ·right
  simp only[fH,gY,if_neg (Ne.symm e)]at h ⊢;exact h
theorem gU (h:L.getD j false=true):(L.setIfInBounds i true).getD j false=true:=by
 simp only[fH,gY]at h ⊢
 by_cases e:i=j
 ·subst e
  by_cases hl:i<L.size
  ·simp[hl]
  ·rw[Array.getElem?_eq_none (by omega)]at h;simp at h
 ·rw[if_neg e];exact h
theorem rC {F:Nh}{P:Ov}{ops:Array E0}{id:Nat}(hm:P.follows .mixedOrders=true)(Inv:Array Bool->Act->B3->Prop)
  (hg:∀(i:Nat)(o:E0),ops[i]?=some o->o.guard=none)
  (hs:∀L a w,Inv L a w->L.size=ops.size)
  (h0:Inv (jU ops.size false) a w.drew)
  (hstep:∀L a w (i:Nat) (o:E0),DC ops L->Inv L a w->i∈P9 .any ops L->ops[i]?=some o->o.wpIn F n P a w (fun a' I=>Inv (L.setIfInBounds i true) a' I) Q)
  (hend:∀L a w,Inv L a w->P9 .any ops L=[]->Q .normal a w):(Code.region id ops true).wpIn F n P Q a w:=by
 refine At hm (fun L a w=>DC ops L/\Inv L a w) hg (fun L a w h=>hs L a w h.2) ⟨fun i o _ e=>by
  simp only[fH,Array.getElem?_replicate]at e
  split at e<;>simp at e,h0⟩ (fun L a w i o H hi ho=>?_) (fun L a w h hr=>hend L a w h.2 hr)
 obtain⟨_,R,g,G⟩:=Lx.1 hi;rw[ho]at g;cases g;refine E0.wpIn_mono (fun a' I h=>⟨fun j q hq s e M O=>?_,h⟩) (hstep L a w i o H.1 H.2 hi ho)
 rcases Jr s with rfl|s
 ·rw[ho]at hq;cases hq;exact gU (G e M O)
 ·exact gU (H.1 j q hq s e M O)
attribute [local go_sem] E0.semAt_some
structure dK (b1 b2:Nat)(v:BK)(K V A B D V2 A2 B2 D2 JA JB:Int)(L:Array Bool)(W:B3)(t21 t22 t23 t24 t25 t26 t27 t28 t29 t30 t31 t32 t33 t34 t35 t36 t37 t38 t39 t40 t41:BK):Prop where
 s0:L.getD 0 false=true->t21=v
 s1:L.getD 1 false=true->t22=.pointer (some ⟨b1,0,none⟩)
 s2:L.getD 2 false=true->t23=.int .i64 K
 s3:L.getD 3 false=true->t24=.pointer (some ⟨b1,1,none⟩)
 s4:L.getD 4 false=true->t25=.int .i64 V
 s5:L.getD 5 false=true->t26=.pointer (some ⟨b2,1,none⟩)
 s6:L.getD 6 false=true->t27=.int .i64 V2
 s7:L.getD 7 false=true->t28=.int .i64 (pv V V2)
 s8:L.getD 8 false=true->t29=.pointer (some ⟨b1,2,none⟩)
 s9:L.getD 9 false=true->t30=tv A B
 s10:L.getD 10 false=true->t31=.pointer (some ⟨b2,2,none⟩)
 s11:L.getD 11 false=true->t32=tv A2 B2
 s12:L.getD 12 false=true->t33=tv JA JB
 s13:L.getD 13 false=true->t34=.pointer (some ⟨b1,4,none⟩)
 s14:L.getD 14 false=true->t35=.int .i64 D
 s15:L.getD 15 false=true->t36=.pointer (some ⟨b2,4,none⟩)
 s16:L.getD 16 false=true->t37=.int .i64 D2
 s17:L.getD 17 false=true->t38=.int .i64 (D*D2)
 s18:L.getD 18 false=true->t39=rv K (pv V V2) JA JB (D*D2)
 s19:L.getD 19 false=true->∃g:Nat,t40=.slice (some ⟨g,0,none⟩) 1 1/\Bk W g #[.int .i64 K,.int .i64 (pv V V2),.int .i64 JA,.int .i64 JB,.int .i64 (D*D2)] 55
variable {b1 b2:Nat}{v:BK}{K V A B D V2 A2 B2 D2 JA JB:Int}{L:Array Bool}{W W':B3}{t21 t22 t23 t24 t25 t26 t27 t28 t29 t30 t31 t32 t33 t34 t35 t36 t37 t38 t39 t40 t41:BK}
theorem dK.keep (h:dK b1 b2 v K V A B D V2 A2 B2 D2 JA JB L W t21 t22 t23 t24 t25 t26 t27 t28 t29 t30 t31 t32 t33 t34 t35 t36 t37 t38 t39 t40 t41)(s:P6 W.heap.size W W'):dK b1 b2 v K V A B D V2 A2 B2 D2 JA JB L W' t21 t22 t23 t24 t25 t26 t27 t28 t29 t30 t31 t32 t33 t34 t35 t36 t37 t38 t39 t40 t41 where
 s0:=h.s0
 s1:=h.s1
 s2:=h.s2
 s3:=h.s3
 s4:=h.s4
 s5:=h.s5
 s6:=h.s6
 s7:=h.s7
 s8:=h.s8
 s9:=h.s9
 s10:=h.s10
 s11:=h.s11
 s12:=h.s12
 s13:=h.s13
 s14:=h.s14
 s15:=h.s15
 s16:=h.s16
 s17:=h.s17
 s18:=h.s18
 s19:=fun e=>by obtain⟨g,h1,h2⟩:=h.s19 e;exact⟨g,h1,h2.keep s⟩
theorem dK.be (h:dK b1 b2 v K V A B D V2 A2 B2 D2 JA JB L W t21 t22 t23 t24 t25 t26 t27 t28 t29 t30 t31 t32 t33 t34 t35 t36 t37 t38 t39 t40 t41)(g:u=v):dK b1 b2 v K V A B D V2 A2 B2 D2 JA JB (L.setIfInBounds 0 true) W u t22 t23 t24 t25 t26 t27 t28 t29 t30 t31 t32 t33 t34 t35 t36 t37 t38 t39 t40 t41:=by
 have s:=h;cases s;constructor
 case s0=>exact fun _=>g
 all_goals (intro e;replace e:=gS e;first|solve_by_elim|exact gU (by solve_by_elim))
theorem dK.bG (h:dK b1 b2 v K V A B D V2 A2 B2 D2 JA JB L W t21 t22 t23 t24 t25 t26 t27 t28 t29 t30 t31 t32 t33 t34 t35 t36 t37 t38 t39 t40 t41)(g:u=.pointer (some ⟨b1,0,none⟩)):dK b1 b2 v K V A B D V2 A2 B2 D2 JA JB (L.setIfInBounds 1 true) W t21 u t23 t24 t25 t26 t27 t28 t29 t30 t31 t32 t33 t34 t35 t36 t37 t38 t39 t40 t41:=by
 have s:=h;cases s;constructor
 case s1=>exact fun _=>g
 all_goals (intro e;replace e:=gS e;first|solve_by_elim|exact gU (by solve_by_elim))
theorem dK.au (h:dK b1 b2 v K V A B D V2 A2 B2 D2 JA JB L W t21 t22 t23 t24 t25 t26 t27 t28 t29 t30 t31 t32 t33 t34 t35 t36 t37 t38 t39 t40 t41)(g:u=.int .i64 K):dK b1 b2 v K V A B D V2 A2 B2 D2 JA JB (L.setIfInBounds 2 true) W t21 t22 u t24 t25 t26 t27 t28 t29 t30 t31 t32 t33 t34 t35 t36 t37 t38 t39 t40 t41:=by
 have s:=h;cases s;constructor
 case s2=>exact fun _=>g
 all_goals (intro e;replace e:=gS e;first|solve_by_elim|exact gU (by solve_by_elim))
theorem dK.ar (h:dK b1 b2 v K V A B D V2 A2 B2 D2 JA JB L W t21 t22 t23 t24 t25 t26 t27 t28 t29 t30 t31 t32 t33 t34 t35 t36 t37 t38 t39 t40 t41)(g:u=.pointer (some ⟨b1,1,none⟩)):dK b1 b2 v K V A B D V2 A2 B2 D2 JA JB (L.setIfInBounds 3 true) W t21 t22 t23 u t25 t26 t27 t28 t29 t30 t31 t32 t33 t34 t35 t36 t37 t38 t39 t40 t41:=by
 have s:=h;cases s;constructor
 case s3=>exact fun _=>g
 all_goals (intro e;replace e:=gS e;first|solve_by_elim|exact gU (by solve_by_elim))
theorem dK.aq (h:dK b1 b2 v K V A B D V2 A2 B2 D2 JA JB L W t21 t22 t23 t24 t25 t26 t27 t28 t29 t30 t31 t32 t33 t34 t35 t36 t37 t38 t39 t40 t41)(g:u=.int .i64 V):dK b1 b2 v K V A B D V2 A2 B2 D2 JA JB (L.setIfInBounds 4 true) W t21 t22 t23 t24 u t26 t27 t28 t29 t30 t31 t32 t33 t34 t35 t36 t37 t38 t39 t40 t41:=by
 have s:=h;cases s;constructor
 case s4=>exact fun _=>g
 all_goals (intro e;replace e:=gS e;first|solve_by_elim|exact gU (by solve_by_elim))
theorem dK.ai (h:dK b1 b2 v K V A B D V2 A2 B2 D2 JA JB L W t21 t22 t23 t24 t25 t26 t27 t28 t29 t30 t31 t32 t33 t34 t35 t36 t37 t38 t39 t40 t41)(g:u=.pointer (some ⟨b2,1,none⟩)):dK b1 b2 v K V A B D V2 A2 B2 D2 JA JB (L.setIfInBounds 5 true) W t21 t22 t23 t24 t25 u t27 t28 t29 t30 t31 t32 t33 t34 t35 t36 t37 t38 t39 t40 t41:=by
 have s:=h;cases s;constructor
 case s5=>exact fun _=>g
 all_goals (intro e;replace e:=gS e;first|solve_by_elim|exact gU (by solve_by_elim))
theorem dK.bm (h:dK b1 b2 v K V A B D V2 A2 B2 D2 JA JB L W t21 t22 t23 t24 t25 t26 t27 t28 t29 t30 t31 t32 t33 t34 t35 t36 t37 t38 t39 t40 t41)(g:u=.int .i64 V2):dK b1 b2 v K V A B D V2 A2 B2 D2 JA JB (L.setIfInBounds 6 true) W t21 t22 t23 t24 t25 t26 u t28 t29 t30 t31 t32 t33 t34 t35 t36 t37 t38 t39 t40 t41:=by
 have s:=h;cases s;constructor
 case s6=>exact fun _=>g
 all_goals (intro e;replace e:=gS e;first|solve_by_elim|exact gU (by solve_by_elim))
theorem dK.bl (h:dK b1 b2 v K V A B D V2 A2 B2 D2 JA JB L W t21 t22 t23 t24 t25 t26 t27 t28 t29 t30 t31 t32 t33 t34 t35 t36 t37 t38 t39 t40 t41)(g:u=.int .i64 (pv V V2)):dK b1 b2 v K V A B D V2 A2 B2 D2 JA JB (L.setIfInBounds 7 true) W t21 t22 t23 t24 t25 t26 t27 u t29 t30 t31 t32 t33 t34 t35 t36 t37 t38 t39 t40 t41:=by
 have s:=h;cases s;constructor
 case s7=>exact fun _=>g
 all_goals (intro e;replace e:=gS e;first|solve_by_elim|exact gU (by solve_by_elim))
theorem dK.bj (h:dK b1 b2 v K V A B D V2 A2 B2 D2 JA JB L W t21 t22 t23 t24 t25 t26 t27 t28 t29 t30 t31 t32 t33 t34 t35 t36 t37 t38 t39 t40 t41)(g:u=.pointer (some ⟨b1,2,none⟩)):dK b1 b2 v K V A B D V2 A2 B2 D2 JA JB (L.setIfInBounds 8 true) W t21 t22 t23 t24 t25 t26 t27 t28 u t30 t31 t32 t33 t34 t35 t36 t37 t38 t39 t40 t41:=by
 have s:=h;cases s;constructor
 case s8=>exact fun _=>g
 all_goals (intro e;replace e:=gS e;first|solve_by_elim|exact gU (by solve_by_elim))
theorem dK.cE (h:dK b1 b2 v K V A B D V2 A2 B2 D2 JA JB L W t21 t22 t23 t24 t25 t26 t27 t28 t29 t30 t31 t32 t33 t34 t35 t36 t37 t38 t39 t40 t41)(g:u=tv A B):dK b1 b2 v K V A B D V2 A2 B2 D2 JA JB (L.setIfInBounds 9 true) W t21 t22 t23 t24 t25 t26 t27 t28 t29 u t31 t32 t33 t34 t35 t36 t37 t38 t39 t40 t41:=by
 have s:=h;cases s;constructor
 case s9=>exact fun _=>g
 all_goals (intro e;replace e:=gS e;first|solve_by_elim|exact gU (by solve_by_elim))
theorem dK.bC (h:dK b1 b2 v K V A B D V2 A2 B2 D2 JA JB L W t21 t22 t23 t24 t25 t26 t27 t28 t29 t30 t31 t32 t33 t34 t35 t36 t37 t38 t39 t40 t41)(g:u=.pointer (some ⟨b2,2,none⟩)):dK b1 b2 v K V A B D V2 A2 B2 D2 JA JB (L.setIfInBounds 10 true) W t21 t22 t23 t24 t25 t26 t27 t28 t29 t30 u t32 t33 t34 t35 t36 t37 t38 t39 t40 t41:=by
 have s:=h;cases s;constructor
 case s10=>exact fun _=>g
 all_goals (intro e;replace e:=gS e;first|solve_by_elim|exact gU (by solve_by_elim))
theorem dK.az (h:dK b1 b2 v K V A B D V2 A2 B2 D2 JA JB L W t21 t22 t23 t24 t25 t26 t27 t28 t29 t30 t31 t32 t33 t34 t35 t36 t37 t38 t39 t40 t41)(g:u=tv A2 B2):dK b1 b2 v K V A B D V2 A2 B2 D2 JA JB (L.setIfInBounds 11 true) W t21 t22 t23 t24 t25 t26 t27 t28 t29 t30 t31 u t33 t34 t35 t36 t37 t38 t39 t40 t41:=by
 have s:=h;cases s;constructor
 case s11=>exact fun _=>g
 all_goals (intro e;replace e:=gS e;first|solve_by_elim|exact gU (by solve_by_elim))
theorem dK.aw (h:dK b1 b2 v K V A B D V2 A2 B2 D2 JA JB L W t21 t22 t23 t24 t25 t26 t27 t28 t29 t30 t31 t32 t33 t34 t35 t36 t37 t38 t39 t40 t41)(g:u=tv JA JB):dK b1 b2 v K V A B D V2 A2 B2 D2 JA JB (L.setIfInBounds 12 true) W t21 t22 t23 t24 t25 t26 t27 t28 t29 t30 t31 t32 u t34 t35 t36 t37 t38 t39 t40 t41:=by
 have s:=h;cases s;constructor
 case s12=>exact fun _=>g
 all_goals (intro e;replace e:=gS e;first|solve_by_elim|exact gU (by solve_by_elim))
theorem dK.bu (h:dK b1 b2 v K V A B D V2 A2 B2 D2 JA JB L W t21 t22 t23 t24 t25 t26 t27 t28 t29 t30 t31 t32 t33 t34 t35 t36 t37 t38 t39 t40 t41)(g:u=.pointer (some ⟨b1,4,none⟩)):dK b1 b2 v K V A B D V2 A2 B2 D2 JA JB (L.setIfInBounds 13 true) W t21 t22 t23 t24 t25 t26 t27 t28 t29 t30 t31 t32 t33 u t35 t36 t37 t38 t39 t40 t41:=by
 have s:=h;cases s;constructor
 case s13=>exact fun _=>g
 all_goals (intro e;replace e:=gS e;first|solve_by_elim|exact gU (by solve_by_elim))
theorem dK.cG (h:dK b1 b2 v K V A B D V2 A2 B2 D2 JA JB L W t21 t22 t23 t24 t25 t26 t27 t28 t29 t30 t31 t32 t33 t34 t35 t36 t37 t38 t39 t40 t41)(g:u=.int .i64 D):dK b1 b2 v K V A B D V2 A2 B2 D2 JA JB (L.setIfInBounds 14 true) W t21 t22 t23 t24 t25 t26 t27 t28 t29 t30 t31 t32 t33 t34 u t36 t37 t38 t39 t40 t41:=by
 have s:=h;cases s;constructor
 case s14=>exact fun _=>g
 all_goals (intro e;replace e:=gS e;first|solve_by_elim|exact gU (by solve_by_elim))
theorem dK.cQ (h:dK b1 b2 v K V A B D V2 A2 B2 D2 JA JB L W t21 t22 t23 t24 t25 t26 t27 t28 t29 t30 t31 t32 t33 t34 t35 t36 t37 t38 t39 t40 t41)(g:u=.pointer (some ⟨b2,4,none⟩)):dK b1 b2 v K V A B D V2 A2 B2 D2 JA JB (L.setIfInBounds 15 true) W t21 t22 t23 t24 t25 t26 t27 t28 t29 t30 t31 t32 t33 t34 t35 u t37 t38 t39 t40 t41:=by
 have s:=h;cases s;constructor
 case s15=>exact fun _=>g
 all_goals (intro e;replace e:=gS e;first|solve_by_elim|exact gU (by solve_by_elim))
theorem dK.cn (h:dK b1 b2 v K V A B D V2 A2 B2 D2 JA JB L W t21 t22 t23 t24 t25 t26 t27 t28 t29 t30 t31 t32 t33 t34 t35 t36 t37 t38 t39 t40 t41)(g:u=.int .i64 D2):dK b1 b2 v K V A B D V2 A2 B2 D2 JA JB (L.setIfInBounds 16 true) W t21 t22 t23 t24 t25 t26 t27 t28 t29 t30 t31 t32 t33 t34 t35 t36 u t38 t39 t40 t41:=by
 have s:=h;cases s;constructor
 case s16=>exact fun _=>g
 all_goals (intro e;replace e:=gS e;first|solve_by_elim|exact gU (by solve_by_elim))
theorem dK.ch (h:dK b1 b2 v K V A B D V2 A2 B2 D2 JA JB L W t21 t22 t23 t24 t25 t26 t27 t28 t29 t30 t31 t32 t33 t34 t35 t36 t37 t38 t39 t40 t41)(g:u=.int .i64 (D*D2)):dK b1 b2 v K V A B D V2 A2 B2 D2 JA JB (L.setIfInBounds 17 true) W t21 t22 t23 t24 t25 t26 t27 t28 t29 t30 t31 t32 t33 t34 t35 t36 t37 u t39 t40 t41:=by
 have s:=h;cases s;constructor
 case s17=>exact fun _=>g
 all_goals (intro e;replace e:=gS e;first|solve_by_elim|exact gU (by solve_by_elim))
theorem dK.cg (h:dK b1 b2 v K V A B D V2 A2 B2 D2 JA JB L W t21 t22 t23 t24 t25 t26 t27 t28 t29 t30 t31 t32 t33 t34 t35 t36 t37 t38 t39 t40 t41)(g:u=rv K (pv V V2) JA JB (D*D2)):dK b1 b2 v K V A B D V2 A2 B2 D2 JA JB (L.setIfInBounds 18 true) W t21 t22 t23 t24 t25 t26 t27 t28 t29 t30 t31 t32 t33 t34 t35 t36 t37 t38 u t40 t41:=by
 have s:=h;cases s;constructor
 case s18=>exact fun _=>g
 all_goals (intro e;replace e:=gS e;first|solve_by_elim|exact gU (by solve_by_elim))
theorem dK.dq (h:dK b1 b2 v K V A B D V2 A2 B2 D2 JA JB L W t21 t22 t23 t24 t25 t26 t27 t28 t29 t30 t31 t32 t33 t34 t35 t36 t37 t38 t39 t40 t41)(s:∃g:Nat,u=.slice (some ⟨g,0,none⟩) 1 1/\Bk W g #[.int .i64 K,.int .i64 (pv V V2),.int .i64 JA,.int .i64 JB,.int .i64 (D*D2)] 55):dK b1 b2 v K V A B D V2 A2 B2 D2 JA JB (L.setIfInBounds 19 true) W t21 t22 t23 t24 t25 t26 t27 t28 t29 t30 t31 t32 t33 t34 t35 t36 t37 t38 t39 u t41:=by
 have F:=h;cases F;constructor
 case s19=>exact fun _=>s
 all_goals (intro e;replace e:=gS e;first|solve_by_elim|exact gU (by solve_by_elim))
theorem jL {d:Bool}(h:i≠j):(L.setIfInBounds i true).getD j d=L.getD j d:=by
 simp only[fH,gY,if_neg h]
theorem kN (h:L.getD j true=false)(g:j<L.size):L.getD j false=false:=by
 simp only[fH,fV g]at h ⊢;exact h
def In (m b1 b2:Nat)(v:BK)(K V A B D V2 A2 B2 D2 JA JB:Int)(G1:B3->BK->Prop)(G2:B3->Prop)(w0:B3)(L:Array Bool)(a:Act)(W:B3):Prop:=
 L.size=22/\(L.getD 20 true=false->P6 w0.heap.size w0 W)/\(L.getD 21 false=true->G2 W)/\∃z0 z1 z2 z3 z4 z16 z17 z18 z19 z20 t21 t22 t23 t24 t25 t26 t27 t28 t29 t30 t31 t32 t33 t34 t35 t36 t37 t38 t39 t40 t41 z42:BK,
  a={ tmps:=#[z0,z1,z2,z3,z4,.pointer (some ⟨m,0,none⟩),.pointer (some ⟨b1,0,none⟩),.pointer (some ⟨b2,0,none⟩),z16,z17,z18,z19,z20,t21,t22,t23,t24,t25,t26,t27,t28,t29,t30,t31,t32,t33,t34,t35,t36,t37,t38,t39,t40,t41,z42],defers:=[] }/\(L.getD 20 false=true->L.getD 21 true=false->G1 W t41)/\(L.getD 20 true=false->dK b1 b2 v K V A B D V2 A2 B2 D2 JA JB L W t21 t22 t23 t24 t25 t26 t27 t28 t29 t30 t31 t32 t33 t34 t35 t36 t37 t38 t39 t40 t41)
theorem eC (hi:i<20)(g:L.size=22)(F:L.getD 20 true=false)(s:L.getD 21 true=false)(G:P6 w0.heap.size w0 W)(S:dK b1 b2 v K V A B D V2 A2 B2 D2 JA JB (L.setIfInBounds i true) W t21 t22 t23 t24 t25 t26 t27 t28 t29 t30 t31 t32 t33 t34 t35 t36 t37 t38 t39 t40 t41):
  In m b1 b2 v K V A B D V2 A2 B2 D2 JA JB G1 G2 w0 (L.setIfInBounds i true) { tmps:=#[z0,z1,z2,z3,z4,.pointer (some ⟨m,0,none⟩),.pointer (some ⟨b1,0,none⟩),.pointer (some ⟨b2,0,none⟩),z16,z17,z18,z19,z20,t21,t22,t23,t24,t25,t26,t27,t28,t29,t30,t31,t32,t33,t34,t35,t36,t37,t38,t39,t40,t41,z42],defers:=[] } W:=
 ⟨by simp[g],fun _=>G,fun e=>by rw[jL (by omega)]at e;exact absurd e (by simp[kN s (by omega)]),_,_,_,_,_,_,_,_,_,_,_,_,_,_,_,_,_,_,_,_,_,_,_,_,_,_,_,_,_,_,_,_,rfl,fun e=>by rw[jL (by omega)]at e;exact absurd e (by simp[kN F (by omega)]),fun _=>S⟩
theorem My {t21 t22 t23 t24 t25 t26 t27 t28 t29 t30 t31 t32 t33 t34 t35 t36 t37 t38 t39 t40:BK}(g:L.size=22)(s:L.getD 21 true=false)(F:G1 W u):
  In m b1 b2 v K V A B D V2 A2 B2 D2 JA JB G1 G2 w0 (L.setIfInBounds 20 true) { tmps:=#[z0,z1,z2,z3,z4,.pointer (some ⟨m,0,none⟩),.pointer (some ⟨b1,0,none⟩),.pointer (some ⟨b2,0,none⟩),z16,z17,z18,z19,z20,t21,t22,t23,t24,t25,t26,t27,t28,t29,t30,t31,t32,t33,t34,t35,t36,t37,t38,t39,t40,u,z42],defers:=[] } W:=
 ⟨by simp[g],fun e=>by simp[g]at e,fun e=>by rw[jL (by omega)]at e;exact absurd e (by simp[kN s (by omega)]),_,_,_,_,_,_,_,_,_,_,_,_,_,_,_,_,_,_,_,_,_,_,_,_,_,_,_,_,_,_,_,_,rfl,fun _ _=>F,fun e=>by simp[g]at e⟩
theorem M3 {t21 t22 t23 t24 t25 t26 t27 t28 t29 t30 t31 t32 t33 t34 t35 t36 t37 t38 t39 t40 t41:BK}(s:L.size=22)(g:L.getD 20 false=true)(F:G2 W):
  In m b1 b2 v K V A B D V2 A2 B2 D2 JA JB G1 G2 w0 (L.setIfInBounds 21 true) { tmps:=#[z0,z1,z2,z3,z4,.pointer (some ⟨m,0,none⟩),.pointer (some ⟨b1,0,none⟩),.pointer (some ⟨b2,0,none⟩),z16,z17,z18,z19,z20,t21,t22,t23,t24,t25,t26,t27,t28,t29,t30,t31,t32,t33,t34,t35,t36,t37,t38,t39,t40,t41,z42],defers:=[] } W:=
 ⟨by simp[s],fun e=>(by rw[jL (by omega)]at e;rw[kN e (by omega)]at g;cases g),fun _=>F,_,_,_,_,_,_,_,_,_,_,_,_,_,_,_,_,_,_,_,_,_,_,_,_,_,_,_,_,_,_,_,_,rfl,fun _ e=>by simp[s]at e,fun e=>(by rw[jL (by omega)]at e;rw[kN e (by omega)]at g;cases g)⟩
theorem sF (hi:L.getD i true=false)(s:i<L.size)(g:j<L.size)(h:L.getD j false=true->L.getD i false=true):L.getD j true=false:=by
 cases e:L.getD j true
 ·rfl
 ·exfalso
  have h1:L.getD j false=true:=by
   simp only[fH,fV g]at e ⊢;exact e
  have h2:=h h1;rw[kN hi s]at h2;cases h2
theorem Ci {B H:Nat}{G O:B3}{l l':List Rw}(hm:Bk G m #[v] 28)(x3:m<H)(U:B<=m)(F:aD G H v l)(s:P6 G.heap.size G O)(hg:O.grownBy W v.ownBlock)(S:aD W H u l')
  (hq:u.ownBlock=v.ownBlock\/∃q,u.ownBlock=some q/\O.heap.size<=q/\q<W.heap.size) (Z:P6 B w G) (hN:H<=G.heap.size):
  W.frozen? ⟨m,0,none⟩=false/\W.cell? ⟨m,0,none⟩=some v/\Md H G (W.setCell ⟨m,0,none⟩ u)/\iK m G (W.setCell ⟨m,0,none⟩ u)/\Bk (W.setCell ⟨m,0,none⟩ u) m #[u] 28/\aD (W.setCell ⟨m,0,none⟩ u) H u l'/\P6 B w (W.setCell ⟨m,0,none⟩ u)/\H<=(W.setCell ⟨m,0,none⟩ u).heap.size:=by
 have R:v.ownBlock≠some m:=fun e=>by have:=oB F m e;omega
 have M:=hm.keep s;have I:Bk W m #[v] 28:=by unfold Bk;rw[hg.block m M.lt (fun e=>R e.symm)];exact M
 have hz:(W.setCell ⟨m,0,none⟩ u).heap.size=W.heap.size:=by simp
 have x2:=s.size;have x1:=hg.size;have Y:=bJ F s;refine⟨?_,I.cell (i:=0) (v:=v) rfl,⟨by omega,fun k o hk ho hc=>?_⟩,(iK.below s hm.lt).trans (iK.grow M hg R hq),by simpa using I.set 0 u,?_,?_,by omega⟩
 ·unfold Bk at I;simp[B3.frozen?,I]
 ·have T:=(fD.1 ho).1;rw[P8 _ _ _ _ (show k≠(⟨m,0,none⟩:P1).block from by show k≠m;omega),hg.block k (by omega) (fun e=>?_),s.block k T]
  ·exact ho
  ·obtain⟨_,⟨rfl,_⟩|⟨g,cp,x4,rfl,_,hh,_⟩⟩:=F
   ·simp[PL]at e
   ·simp[PL]at e;subst e;rw[hh]at ho;cases ho;cases hc
 ·refine dF S fun q e=>P8 _ _ _ _ (show q≠m from ?_);have:=oB S q e;omega
 ·refine P6.setCell ?_ U _;exact Below.aO (Z.trans (s.mono (by have:=hm.lt;omega))) hg (by have:=M.lt;omega) (fun q e=>by have:=oB F q e;omega)
end
open Go.RowKit Go.Shelf
attribute [local go_sem] E0.semAt_some
theorem ND (h:P6 B w W)(g:P6 W.heap.size W W')(s:B<=W.heap.size:=by omega):P6 B w W':=h.trans (g.mono s)
theorem FM {l:List Rw}(h:aD w B v l){q:Nat}(e:v.ownBlock=some q):∃c:Array BK,Bk w q c 55:=by
 rcases gE h jD with⟨rfl,_⟩|⟨g,F,c,rfl,_,s,_⟩
 ·cases e
 ·have:g=q:=by simpa[PL]using e
  subst this;exact⟨c,s⟩
theorem F5 (a b:Option P1)(x9 x7:Nat)(s t:List Rw)(w:B3)(h:Rs w (.slice a s.length x9) s)(h':Rs w (.slice b t.length x7) t)(hk:aR s=true)(a4:aR t=true):
  Ga PO 4 PJ 173 #[.slice a s.length x9,.slice b t.length x7] w fun e w'=>∃o:BK,e=.returned o/\aD w' w.heap.size o (d8 s t)/\P6 w.heap.size w w':=by
 have HH:Hid (Rs w (.slice a s.length x9) s):=h;have o4:Hid (Rs w (.slice b t.length x7) t):=h';clear h h';have w8:w.heap.size<=w.heap.size:=PG _;refine callsIn_of_wp_marks Tryz.func173 rfl trivial ?_ rfl;simp only[Tryz.ntmps173,sE,oJ,wR,PI,PH,iC,gZ,sG,rN,wH,sI]
 gi_wp2
 refine⟨trivial,?_⟩;refine PM (EJ.2 (Id _ _ _ _ _ _ _)) ?_;rintro e W0 ⟨rfl,y6⟩;have b5:Bk W0 w.heap.size #[.slice none 0 0] 28:=by
  rw[y6];exact ((Bk.new (w:=w) _ _ rfl).alloc _).alloc _
 have o0:Bk W0 (w.heap.size+1) #[.slice a s.length x9] 28:=by
  rw[y6];exact (Bk.new (w:=w.alloc (.cells #[.slice none 0 0] 28)) _ _ (by simp)).alloc _
 have n6:Bk W0 (w.heap.size+1+1) #[.slice b t.length x7] 28:=by
  rw[y6];exact Bk.new (w:=(w.alloc (.cells #[.slice none 0 0] 28)).alloc _) _ _ (by simp)
 have i2:W0.heap.size=w.heap.size+1+1+1:=by rw[y6];simp
 have b3:P6 w.heap.size w W0:=by
  rw[y6];exact aG (aG (aG (P7 _ _) _) _) _
 clear y6;have b4:P6 w.heap.size w W0:=b3;have k3:cA W0 w.heap.size=none:=by unfold cA;rw[b5.cell (i:=0) (v:= .slice none 0 0) rfl];rfl
 gi_wp2
 clear b3;have hJ:Hid (W0.heap.size=w.heap.size+1+1+1):=i2;refine wpIn_rangeFunc_ownH (n:=4) (w0:=W0) rfl (by omega) (gf:=244) (lb:=#[.pointer (some ⟨w.heap.size+1,0,none⟩),.pointer (some ⟨w.heap.size+1+1,0,none⟩)]) rfl trivial (enters_of PK (by kernel_rfl) rfl)
  (F2 (w.heap.size+1) (w.heap.size+1+1) w.heap.size a b x9 x7 s t w W0 hk a4 HH.out o4.out w8 (by omega) (Kc.aA b4) o0 n6 (by omega) k3)
  (fun h k=>h.trans k) (fun W lq o o' hN ho hc _=>iK.put W lq o o' (by omega) ho hc) (P7 _ _) (fun _=>rfl)
  (fun pre W=>(∃v:BK,Bk W w.heap.size #[v] 28/\aD W W0.heap.size v (pre.map fun z=>CO z.1))/\P6 w.heap.size w W/\W0.heap.size<=W.heap.size)
  (fun _ _ _=>False)
  (fun pre A B w5 hs hg hr=>by
   obtain⟨⟨v,h1,h2⟩,h5,h6⟩:=hs;refine⟨⟨v,Bk.aO h1 hg (fun r e=>by have:=(hr r e).1;omega),dF h2 fun q e=>hg.block q (oT h2 q e) (fun e'=>?_)⟩,Below.aO h5 hg (by omega) (fun r e=>by have:=(hr r e).1;omega),PF h6 hg.size⟩;obtain⟨_,o,h7,h8⟩:=hr q e'.symm;obtain⟨_,⟨rfl,_⟩|⟨g,cp,hH,rfl,_,hh,_⟩⟩:=h2
   ·simp[PL]at e
   ·simp[PL]at e;subst e;rw[hh]at h7;cases h7;cases h8)
  (fun _ _ _ _ _ hs _ _=>hs)
  ⟨⟨_,b5,oN _ _ _ _ _⟩,b4,PG _⟩
  (fun z a' W=>∃c1 c2:Nat,W0.heap.size<=c1/\W0.heap.size<=c2/\Bk W c1 #[.int .i64 z.1.1.1.1.1,.int .i64 z.1.1.1.1.2,.int .i64 z.1.1.1.2.1,.int .i64 z.1.1.1.2.2,.int .i64 z.1.1.2] 55/\Bk W c2 #[.int .i64 z.1.2.1.1.1,.int .i64 z.1.2.1.1.2,.int .i64 z.1.2.1.2.1,.int .i64 z.1.2.1.2.2,.int .i64 z.1.2.2] 55/\cA W w.heap.size≠some c1/\cA W w.heap.size≠some c2 /\
   a'={ tmps:=#[.slice a s.length x9,.slice b t.length x7,undef,undef,.slice none 0 0,.pointer (some ⟨w.heap.size,0,none⟩),.pointer (some ⟨c1,0,none⟩),.pointer (some ⟨c2,0,none⟩),.slice a s.length x9,.slice b t.length x7,
    .func (.func 244) #[] #[.pointer (some ⟨w.heap.size+1,0,none⟩),.pointer (some ⟨w.heap.size+1+1,0,none⟩)],Ld z.1.1,Ld z.1.2,undef,undef,undef,undef,undef,undef,undef,undef,undef,undef,undef,undef,undef,undef,undef,undef,undef,undef,undef,undef,undef,undef],defers:=[] })
  (fun z a' _ A B w5 hs hg hr=>by
   obtain⟨c1,c2,h1,h2,h3,h4,h5,h6,h7⟩:=hs;have hne:∀{k:Nat}{c:Array BK}{t:P3},Bk A k c t->∀r,w5=some r->k≠r:=fun G r e e'=>by
    obtain⟨_,o,h8,h9⟩:=hr r e;subst e';unfold Bk at G;rw[G]at h8;cases h8;cases h9
   have x8:cA B w.heap.size=cA A w.heap.size:=by
    by_cases a2:w.heap.size<A.heap.size
    ·exact aB (hg.block w.heap.size a2 (fun e=>by have:=(hr w.heap.size e.symm).1;omega))
    ·have:=h3.lt;omega
   exact⟨c1,c2,h1,h2,Bk.aO h3 hg (hne h3),Bk.aO h4 hg (hne h4),by rw[x8];exact h5,by rw[x8];exact h6,h7⟩)
  ?assign ?body ?done ?stop
 case assign=>
  rintro lq pre z W K ⟨⟨v,h1,h2⟩,h5,h6⟩ Y;have y9:=h1.lt;have y5:P6 W.heap.size W ((W.alloc (.cells #[.int .i64 z.1.1.1.1.1,.int .i64 z.1.1.1.1.2,.int .i64 z.1.1.1.2.1,.int .i64 z.1.1.1.2.2,.int .i64 z.1.1.2] 55)).alloc (.cells #[.int .i64 z.1.2.1.1.1,.int .i64 z.1.2.1.1.2,.int .i64 z.1.2.1.2.1,.int .i64 z.1.2.1.2.2,.int .i64 z.1.2.2] 55)):=aG (aG (P7 _ _) _) _;have x8:cA W w.heap.size=v.ownBlock:=by unfold cA;rw[h1.cell (i:=0) (v:=v) rfl];rfl
  have hq:∀q,v.ownBlock=some q->q<W.heap.size:=fun q e=>oT h2 q e
  gi_wp2
  refine Y _ _ (((P4.alloc _ _).trans (P4.alloc _ _)).from _) (iK.below y5 y9) ⟨⟨v,h1.keep y5,bJ h2 y5⟩,ND h5 y5,by simp;omega⟩
   ⟨W.heap.size,W.heap.size+1,h6,by omega,(Bk.new _ _ rfl).alloc _,Bk.new _ _ (by simp),?_,?_,rfl⟩
  ·rw[aB (y5.block w.heap.size y9),x8];intro e;have:=hq _ e;omega
  ·rw[aB (y5.block w.heap.size y9),x8];intro e;have:=hq _ e;omega
 case body=>
  rintro lq pre z a' W hC-⟨⟨v,h1,h2⟩,h5,h6⟩ ⟨c1,c2,hG,hE,k1,k2,j5,j2,rfl⟩ a2;obtain⟨⟨⟨⟨⟨K,V⟩,⟨A,B⟩⟩,D⟩,⟨⟨⟨K2,V2⟩,⟨A2,B2⟩⟩,D2⟩⟩,u0,z9,a7⟩:=z;simp only at a7;subst a7;obtain⟨-,-,i3,i4⟩:=BY u0;obtain⟨-,-,j3,j4⟩:=BY z9;simp only at i3 i4 j3 j4 k1 k2;have a1:=Dr (lG u0) (lG z9);simp only at a1;have iw:Oz.i64.wrap (D*D2)=D*D2:=by rw[Oz.wrap_i64]<;>omega
  have HJ:Hid (∀W,P5 PJ 98 #[tv A B,tv A2 B2] W fun e w'=>e=.returned (tv (iE A B A2 B2) (iF A B A2 B2))/\P6 W.heap.size W w'):=fun W=>rP A B A2 B2 W;have w9:(pre.map fun z=>CO z.1).length<=160000:=by rw[mF];omega
  obtain⟨l',w3⟩:∃l',l'=((pre++[⟨((((K,V),(A,B)),D),(((K,V2),(A2,B2)),D2)),u0,z9,rfl⟩]:List XP).map fun z=>CO z.1):=⟨_,rfl⟩;have a3:l'=(pre.map fun z=>CO z.1)++[(((K,pv V V2),(iE A B A2 B2,iF A B A2 B2)),D*D2)]:=by rw[w3,kR];rfl
  have o3:Hid (l'=((pre++[⟨((((K,V),(A,B)),D),(((K,V2),(A2,B2)),D2)),u0,z9,rfl⟩]:List XP).map fun z=>CO z.1)):=w3;clear w3;generalize (pre.map fun z=>CO z.1)=l at*;generalize iE A B A2 B2=JA at*;generalize iF A B A2 B2=JB at*;have o5:Hid (∀(W1:B3)(g:Nat),P6 W.heap.size W W1->Bk W1 g #[.int .i64 K,.int .i64 (pv V V2),.int .i64 JA,.int .i64 JB,.int .i64 (D*D2)] 55->∃(u:BK)(W':B3),(Builtin.append_ #[28,28] 28 #[v,.slice (some ⟨g,0,none⟩) 1 1]).run PJ W1=.ok u W'/\(∃(q:P1)(n c:Nat),u=.slice (some q) n c)/\W'.frozen? ⟨w.heap.size,0,none⟩=false/\W'.cell? ⟨w.heap.size,0,none⟩=some v/\Md W0.heap.size W (W'.setCell ⟨w.heap.size,0,none⟩ u)/\iK w.heap.size W (W'.setCell ⟨w.heap.size,0,none⟩ u)/\((∃v:BK,Bk (W'.setCell ⟨w.heap.size,0,none⟩ u) w.heap.size #[v] 28/\aD (W'.setCell ⟨w.heap.size,0,none⟩ u) W0.heap.size v l')/\P6 w.heap.size w (W'.setCell ⟨w.heap.size,0,none⟩ u)/\W0.heap.size<=(W'.setCell ⟨w.heap.size,0,none⟩ u).heap.size)):=fun W1 g G hg=>by
   have b6:=bJ h2 G;obtain⟨gq,t2,W',e1,e2,e3,e4,e5⟩:=Do 28 b6 g K (pv V V2) JA JB (D*D2) hg (by omega) (by have:=G.size;omega);rw[<- a3]at e2;obtain⟨f1,f2,f3,f4,f5,f6,f7,f8⟩:=Ci h1 (by omega) w8 h2 G e3 e2 (e4.elim (fun e=> .inl e.symm) (fun e=> .inr ⟨gq,rfl,by omega,e5⟩)) h5 h6;exact⟨_,W',e1,⟨_,_,_,rfl⟩,f1,f2,f3,f4,⟨_,f5,f6⟩,f7,f8⟩
  have HM:Hid (Bk W w.heap.size #[v] 28):=h1;have H1:Hid (Bk W c1 #[.int .i64 K,.int .i64 V,.int .i64 A,.int .i64 B,.int .i64 D] 55):=k1;have H2:Hid (Bk W c2 #[.int .i64 K,.int .i64 V2,.int .i64 A2,.int .i64 B2,.int .i64 D2] 55):=k2;clear h1 h2 h5 h6 k1 k2 j5 j2 a3 w9 a1;obtain⟨G1,b0⟩:∃G1:B3->BK->Prop,G1=fun W' u=>(∃(q:P1)(n c:Nat),u=.slice (some q) n c)/\W'.frozen? ⟨w.heap.size,0,none⟩=false/\W'.cell? ⟨w.heap.size,0,none⟩=some v/\Md W0.heap.size W (W'.setCell ⟨w.heap.size,0,none⟩ u)/\iK w.heap.size W (W'.setCell ⟨w.heap.size,0,none⟩ u)/\((∃v:BK,Bk (W'.setCell ⟨w.heap.size,0,none⟩ u) w.heap.size #[v] 28/\aD (W'.setCell ⟨w.heap.size,0,none⟩ u) W0.heap.size v l')/\P6 w.heap.size w (W'.setCell ⟨w.heap.size,0,none⟩ u)/\W0.heap.size<=(W'.setCell ⟨w.heap.size,0,none⟩ u).heap.size):=⟨_,rfl⟩;obtain⟨G2,a8⟩:∃G2:B3->Prop,G2=fun W'=>Md W0.heap.size W W'/\iK w.heap.size W W'/\((∃v:BK,Bk W' w.heap.size #[v] 28/\aD W' W0.heap.size v l')/\P6 w.heap.size w W'/\W0.heap.size<=W'.heap.size):=⟨_,rfl⟩
  gi_wp2
  refine rC (by kernel_rfl) (In w.heap.size c1 c2 v K V A B D V2 A2 B2 D2 JA JB G1 G2 W) ?hg ?hs ?h0 ?hstep ?hend
  case hg=>
   intro i op ho;have hi:i<22:=(fD.1 ho).1;obtain rfl|rfl|rfl|rfl|rfl|rfl|rfl|rfl|rfl|rfl|rfl|rfl|rfl|rfl|rfl|rfl|rfl|rfl|rfl|rfl|rfl|rfl:i=0\/i=1\/i=2\/i=3\/i=4\/i=5\/i=6\/i=7\/i=8\/i=9\/i=10\/i=11\/i=12\/i=13\/i=14\/i=15\/i=16\/i=17\/i=18\/i=19\/i=20\/i=21:=by omega
   all_goals cases ho;rfl
  case hs=>intro L a W hI;exact hI.1
  case h0=>
   refine⟨by simp,fun _=>(P7 _ _).drew,fun e=>by simp at e,_,_,_,_,_,_,_,_,_,_,_,_,_,_,_,_,_,_,_,_,_,_,_,_,_,_,_,_,_,_,_,_,rfl,fun e=>by simp at e,fun _=>?_⟩;constructor<;>(intro e;simp at e)
  case hend=>
   rintro L a W' ⟨R,-,hF,-⟩ hr;have I:∀j,j<22->L.getD j false=true:=by
    refine jI (by simpa using R) ?_ hr;intro i op ho;have hi:i<22:=(fD.1 ho).1;obtain rfl|rfl|rfl|rfl|rfl|rfl|rfl|rfl|rfl|rfl|rfl|rfl|rfl|rfl|rfl|rfl|rfl|rfl|rfl|rfl|rfl|rfl:i=0\/i=1\/i=2\/i=3\/i=4\/i=5\/i=6\/i=7\/i=8\/i=9\/i=10\/i=11\/i=12\/i=13\/i=14\/i=15\/i=16\/i=17\/i=18\/i=19\/i=20\/i=21:=by omega
    all_goals cases ho
    all_goals (first|(simp;done)|(simp[PD];done)|decide)
   have hq:=hF (I 21 (by omega));rw[a8,o3.out]at hq;clear hF I hr
   gi_wp2
   exact hq
  case hstep=>
   rintro L a W' i op T ⟨R,hB,hF,z0,z1,z2,z3,z4,z16,z17,z18,z19,z20,t21,t22,t23,t24,t25,t26,t27,t28,t29,t30,t31,t32,t33,t34,t35,t36,t37,t38,t39,t40,t41,z42,rfl,hQ,Z⟩ hi ho;have U:L.getD 20 false=true->∀j,j<20->L.getD j false=true:=by
    intro y7;have l0:=T 20 _ rfl y7 ⟨0,.data⟩ (by simp) rfl;have g3:=T 20 _ rfl y7 ⟨19,.data⟩ (by simp) rfl;have z8:=T 19 _ rfl g3 ⟨18,.data⟩ (by simp) rfl;have l2:=T 18 _ rfl z8 ⟨2,.data⟩ (by simp) rfl;have l7:=T 18 _ rfl z8 ⟨7,.data⟩ (by simp) rfl;have w7:=T 18 _ rfl z8 ⟨12,.data⟩ (by simp) rfl;have w6:=T 18 _ rfl z8 ⟨17,.data⟩ (by simp) rfl;have l1:=T 2 _ rfl l2 ⟨1,.data⟩ (by simp) rfl;have l4:=T 7 _ rfl l7 ⟨4,.data⟩ (by simp) rfl;have l6:=T 7 _ rfl l7 ⟨6,.data⟩ (by simp) rfl;have l3:=T 4 _ rfl l4 ⟨3,.data⟩ (by simp) rfl;have l5:=T 6 _ rfl l6 ⟨5,.data⟩ (by simp) rfl;have l9:=T 12 _ rfl w7 ⟨9,.data⟩ (by simp) rfl;have g7:=T 12 _ rfl w7 ⟨11,.data⟩ (by simp) rfl;have l8:=T 9 _ rfl l9 ⟨8,.data⟩ (by simp) rfl;have hA:=T 11 _ rfl g7 ⟨10,.data⟩ (by simp) rfl;have g5:=T 17 _ rfl w6 ⟨14,.data⟩ (by simp) rfl;have g4:=T 17 _ rfl w6 ⟨16,.data⟩ (by simp) rfl;have t9:=T 14 _ rfl g5 ⟨13,.data⟩ (by simp) rfl;have t8:=T 16 _ rfl g4 ⟨15,.data⟩ (by simp) rfl;intro j hj;obtain rfl|rfl|rfl|rfl|rfl|rfl|rfl|rfl|rfl|rfl|rfl|rfl|rfl|rfl|rfl|rfl|rfl|rfl|rfl|rfl:j=0\/j=1\/j=2\/j=3\/j=4\/j=5\/j=6\/j=7\/j=8\/j=9\/j=10\/j=11\/j=12\/j=13\/j=14\/j=15\/j=16\/j=17\/j=18\/j=19:=by omega
    all_goals assumption
   have M:L.getD 21 false=true->L.getD 20 false=true:=fun g2=>T 21 _ rfl g2 ⟨20,.data⟩ (by simp) rfl;clear T;obtain⟨O,o',a0,I⟩:=Lx.1 hi;rw[ho]at a0;cases a0;have p3:i<22:=(fD.1 ho).1;clear hi;generalize Y:(fun a' w'=>In w.heap.size c1 c2 v K V A B D V2 A2 B2 D2 JA JB G1 G2 W (L.setIfInBounds i true) a' w')=K';obtain rfl|rfl|rfl|rfl|rfl|rfl|rfl|rfl|rfl|rfl|rfl|rfl|rfl|rfl|rfl|rfl|rfl|rfl|rfl|rfl|rfl|rfl:i=0\/i=1\/i=2\/i=3\/i=4\/i=5\/i=6\/i=7\/i=8\/i=9\/i=10\/i=11\/i=12\/i=13\/i=14\/i=15\/i=16\/i=17\/i=18\/i=19\/i=20\/i=21:=by omega
   ·cases ho;have F:L.getD 20 true=false:=sF O (by omega) (by omega) (fun e=>U e _ (by omega));have H:L.getD 21 true=false:=sF F (by omega) (by omega) M;have G:=hB F;have S:=Z F;have c0:=(HM.out.keep G).cell (i:=0) (v:=v) rfl;go_simp;subst Y;exact eC (by omega) R F H G (S.be rfl)
   ·cases ho;have F:L.getD 20 true=false:=sF O (by omega) (by omega) (fun e=>U e _ (by omega));have H:L.getD 21 true=false:=sF F (by omega) (by omega) M;have G:=hB F;have S:=Z F;go_simp;subst Y;exact eC (by omega) R F H G (S.bG rfl)
   ·cases ho;have F:L.getD 20 true=false:=sF O (by omega) (by omega) (fun e=>U e _ (by omega));have H:L.getD 21 true=false:=sF F (by omega) (by omega) M;have G:=hB F;have S:=Z F;have e1:=S.s1 (I ⟨1,.data⟩ (by simp) rfl);subst e1;obtain⟨x0,x1,x2,x3,x4⟩:=(H1.out.keep G).aa;obtain⟨y0,y1,y2,y3,y4⟩:=(H2.out.keep G).aa;go_simp;subst Y;exact eC (by omega) R F H G (S.au rfl)
   ·cases ho;have F:L.getD 20 true=false:=sF O (by omega) (by omega) (fun e=>U e _ (by omega));have H:L.getD 21 true=false:=sF F (by omega) (by omega) M;have G:=hB F;have S:=Z F;go_simp;subst Y;exact eC (by omega) R F H G (S.ar rfl)
   ·cases ho;have F:L.getD 20 true=false:=sF O (by omega) (by omega) (fun e=>U e _ (by omega));have H:L.getD 21 true=false:=sF F (by omega) (by omega) M;have G:=hB F;have S:=Z F;have e3:=S.s3 (I ⟨3,.data⟩ (by simp) rfl);subst e3;obtain⟨x0,x1,x2,x3,x4⟩:=(H1.out.keep G).aa;obtain⟨y0,y1,y2,y3,y4⟩:=(H2.out.keep G).aa;go_simp;subst Y;exact eC (by omega) R F H G (S.aq rfl)
   ·cases ho;have F:L.getD 20 true=false:=sF O (by omega) (by omega) (fun e=>U e _ (by omega));have H:L.getD 21 true=false:=sF F (by omega) (by omega) M;have G:=hB F;have S:=Z F;go_simp;subst Y;exact eC (by omega) R F H G (S.ai rfl)
   ·cases ho;have F:L.getD 20 true=false:=sF O (by omega) (by omega) (fun e=>U e _ (by omega));have H:L.getD 21 true=false:=sF F (by omega) (by omega) M;have G:=hB F;have S:=Z F;have e5:=S.s5 (I ⟨5,.data⟩ (by simp) rfl);subst e5;obtain⟨x0,x1,x2,x3,x4⟩:=(H1.out.keep G).aa;obtain⟨y0,y1,y2,y3,y4⟩:=(H2.out.keep G).aa;go_simp;subst Y;exact eC (by omega) R F H G (S.bm rfl)
   ·cases ho;have F:L.getD 20 true=false:=sF O (by omega) (by omega) (fun e=>U e _ (by omega));have H:L.getD 21 true=false:=sF F (by omega) (by omega) M;have G:=hB F;have S:=Z F;have e4:=S.s4 (I ⟨4,.data⟩ (by simp) rfl);have e6:=S.s6 (I ⟨6,.data⟩ (by simp) rfl);subst e4 e6;go_simp;refine⟨trivial,?_⟩;refine PN lq (PM (EJ.2 (FI i3 i4 j3 j4 _)) ?_);rintro e W1 ⟨rfl,y8⟩;subst Y;exact eC (by omega) R F H (aH G y8) ((S.keep y8).bl rfl)
   ·cases ho;have F:L.getD 20 true=false:=sF O (by omega) (by omega) (fun e=>U e _ (by omega));have H:L.getD 21 true=false:=sF F (by omega) (by omega) M;have G:=hB F;have S:=Z F;go_simp;subst Y;exact eC (by omega) R F H G (S.bj rfl)
   ·cases ho;have F:L.getD 20 true=false:=sF O (by omega) (by omega) (fun e=>U e _ (by omega));have H:L.getD 21 true=false:=sF F (by omega) (by omega) M;have G:=hB F;have S:=Z F;have e8:=S.s8 (I ⟨8,.data⟩ (by simp) rfl);subst e8;obtain⟨x0,x1,x2,x3,x4⟩:=(H1.out.keep G).aa;obtain⟨y0,y1,y2,y3,y4⟩:=(H2.out.keep G).aa;go_simp;subst Y;exact eC (by omega) R F H G (S.cE rfl)
   ·cases ho;have F:L.getD 20 true=false:=sF O (by omega) (by omega) (fun e=>U e _ (by omega));have H:L.getD 21 true=false:=sF F (by omega) (by omega) M;have G:=hB F;have S:=Z F;go_simp;subst Y;exact eC (by omega) R F H G (S.bC rfl)
   ·cases ho;have F:L.getD 20 true=false:=sF O (by omega) (by omega) (fun e=>U e _ (by omega));have H:L.getD 21 true=false:=sF F (by omega) (by omega) M;have G:=hB F;have S:=Z F;have n4:=S.s10 (I ⟨10,.data⟩ (by simp) rfl);subst n4;obtain⟨x0,x1,x2,x3,x4⟩:=(H1.out.keep G).aa;obtain⟨y0,y1,y2,y3,y4⟩:=(H2.out.keep G).aa;go_simp;subst Y;exact eC (by omega) R F H G (S.az rfl)
   ·cases ho;have F:L.getD 20 true=false:=sF O (by omega) (by omega) (fun e=>U e _ (by omega));have H:L.getD 21 true=false:=sF F (by omega) (by omega) M;have G:=hB F;have S:=Z F;have e9:=S.s9 (I ⟨9,.data⟩ (by simp) rfl);have n3:=S.s11 (I ⟨11,.data⟩ (by simp) rfl);subst e9 n3;go_simp;refine⟨trivial,?_⟩;refine PN lq (PM (EJ.2 (HJ.out _)) ?_);rintro e W1 ⟨rfl,y8⟩;subst Y;exact eC (by omega) R F H (aH G y8) ((S.keep y8).aw rfl)
   ·cases ho;have F:L.getD 20 true=false:=sF O (by omega) (by omega) (fun e=>U e _ (by omega));have H:L.getD 21 true=false:=sF F (by omega) (by omega) M;have G:=hB F;have S:=Z F;go_simp;subst Y;exact eC (by omega) R F H G (S.bu rfl)
   ·cases ho;have F:L.getD 20 true=false:=sF O (by omega) (by omega) (fun e=>U e _ (by omega));have H:L.getD 21 true=false:=sF F (by omega) (by omega) M;have G:=hB F;have S:=Z F;have m5:=S.s13 (I ⟨13,.data⟩ (by simp) rfl);subst m5;obtain⟨x0,x1,x2,x3,x4⟩:=(H1.out.keep G).aa;obtain⟨y0,y1,y2,y3,y4⟩:=(H2.out.keep G).aa;go_simp;subst Y;exact eC (by omega) R F H G (S.cG rfl)
   ·cases ho;have F:L.getD 20 true=false:=sF O (by omega) (by omega) (fun e=>U e _ (by omega));have H:L.getD 21 true=false:=sF F (by omega) (by omega) M;have G:=hB F;have S:=Z F;go_simp;subst Y;exact eC (by omega) R F H G (S.cQ rfl)
   ·cases ho;have F:L.getD 20 true=false:=sF O (by omega) (by omega) (fun e=>U e _ (by omega));have H:L.getD 21 true=false:=sF F (by omega) (by omega) M;have G:=hB F;have S:=Z F;have m3:=S.s15 (I ⟨15,.data⟩ (by simp) rfl);subst m3;obtain⟨x0,x1,x2,x3,x4⟩:=(H1.out.keep G).aa;obtain⟨y0,y1,y2,y3,y4⟩:=(H2.out.keep G).aa;go_simp;subst Y;exact eC (by omega) R F H G (S.cn rfl)
   ·cases ho;have F:L.getD 20 true=false:=sF O (by omega) (by omega) (fun e=>U e _ (by omega));have H:L.getD 21 true=false:=sF F (by omega) (by omega) M;have G:=hB F;have S:=Z F;have m4:=S.s14 (I ⟨14,.data⟩ (by simp) rfl);have m2:=S.s16 (I ⟨16,.data⟩ (by simp) rfl);subst m4 m2;go_simp;subst Y;exact eC (by omega) R F H G (S.ch rfl)
   ·cases ho;have F:L.getD 20 true=false:=sF O (by omega) (by omega) (fun e=>U e _ (by omega));have H:L.getD 21 true=false:=sF F (by omega) (by omega) M;have G:=hB F;have S:=Z F;have e2:=S.s2 (I ⟨2,.data⟩ (by simp) rfl);have e7:=S.s7 (I ⟨7,.data⟩ (by simp) rfl);have m9:=S.s12 (I ⟨12,.data⟩ (by simp) rfl);have m1:=S.s17 (I ⟨17,.data⟩ (by simp) rfl);subst e2 e7 m9 m1;go_simp;subst Y;exact eC (by omega) R F H G (S.cg rfl)
   ·cases ho;have F:L.getD 20 true=false:=sF O (by omega) (by omega) (fun e=>U e _ (by omega));have H:L.getD 21 true=false:=sF F (by omega) (by omega) M;have G:=hB F;have S:=Z F;have m0:=S.s18 (I ⟨18,.data⟩ (by simp) rfl);subst m0;have a6:P6 W'.heap.size W' (W'.alloc (.cells #[.int .i64 K,.int .i64 (pv V V2),.int .i64 JA,.int .i64 JB,.int .i64 (D*D2)] 55)):=aG (P7 _ _) _;go_simp;subst Y;exact eC (by omega) R F H (aH G a6) ((S.keep a6).dq ⟨_,rfl,Bk.new _ _ rfl⟩)
   ·cases ho;have H:L.getD 21 true=false:=sF O (by omega) (by omega) M;have G:=hB O;have S:=Z O;have e0:=S.s0 (I ⟨0,.data⟩ (by simp) rfl);obtain⟨g,k5,hg⟩:=S.s19 (I ⟨19,.data⟩ (by simp) rfl);subst e0 k5;obtain⟨u,W2,e1,e2⟩:=o5.out W' g G hg;have j1:G1 W2 u:=by rw[b0];exact e2
    clear e2;clear S Z hQ;refine zP _ _ _ rfl rfl rfl e1 ?_;subst Y;exact My R H j1
   ·cases ho;have y7:=I ⟨20,.data⟩ (by simp) rfl;have hq:=hQ y7 O;rw[b0]at hq;obtain⟨⟨qa,qn,qc,rfl⟩,q1,q2,q3⟩:=hq;have i5:G2 (W'.setCell ⟨w.heap.size,0,none⟩ (.slice (some qa) qn qc)):=by rw[a8];exact q3
    clear q3;clear hQ Z;go_simp;subst Y;exact M3 R y7 i5
 case done=>
  rintro D xs W hD Z ⟨⟨v,h1,h2⟩,h5,h6⟩ Y;have c0:=h1.cell (i:=0) (v:=v) rfl;have HX:(xs.map fun z=>CO z.1)=d8 s t:=by rw[<- Jq,<-Z,AT];rfl
  rw[HX]at h2;have w9:(d8 s t).length<=160000:=by
   have h3:=xD s t;have h4:s.length*t.length<=400*400:=PE (fP hk) (fP a4);omega
  obtain⟨o1,n5,rfl,-⟩:=Rs.open (aD.rs h2 (by omega));have O3:Hid (aD W W0.heap.size (.slice o1 (d8 s t).length n5) (d8 s t)):=h2;clear Z HX h2 h1
  gi_wp2
  refine⟨by simp,.inl ⟨_,_,rfl,run_takeDeferred Y,?_⟩⟩;refine⟨_,results_tmp rfl _ _ _,_,rfl,?_,?_⟩
  ·refine bQ (B:=W0.heap.size) ?_ (by omega);refine dF O3.out fun q e=>?_;obtain⟨c,a5⟩:=FM O3.out e;exact (P2 W D (.deferred none)).block q (oT O3.out q e) (fun e=>by cases e;unfold Bk at a5;rw[a5]at Y;cases Y)
  ·exact h5.trans (belowK_b (w:=W0) (by omega) W D _ _ hD Y rfl rfl)
 case stop=>
  rintro D c pre W _ _ h _;exact h.elim
theorem Da (v u:BK)(s t:List Rw)(w:B3)(h:Rs w v s)(H:Rs w u t)(M:aR s=true)(G:aR t=true):
  P5 PJ 173 #[v,u] w fun e F=>∃o:BK,e=.returned o/\aD F w.heap.size o (d8 s t)/\P6 w.heap.size w F:=by
 obtain⟨a,I,rfl,-,-,-,-⟩:=Rs.open h;obtain⟨b,g,rfl,-,-,-,-⟩:=Rs.open H;exact EJ.1 (F5 a b I g s t w h H M G)
end Go.Proofs.YtbdpcngcbnoioaaGreatDoor
