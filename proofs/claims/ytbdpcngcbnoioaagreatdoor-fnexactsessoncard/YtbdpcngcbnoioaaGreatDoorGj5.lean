import Derived.Test.YtbdpcngcbnoioaaGreatDoorGe1
import Derived.Test.YtbdpcngcbnoioaaGreatDoorGj1
import Derived.OrdersIn
import Derived.Test.YtbdpcngcbnoioaaGreatDoorGlk
import Derived.Test.YtbdpcngcbnoioaaGreatDoorGk2
set_option maxRecDepth 100000
set_option maxHeartbeats 16000000
namespace Go.Proofs.YtbdpcngcbnoioaaGreatDoor
open Go.RowKit
attribute [local go_sem ↓] Go.wp_at_zero Go.wp_at_succ
theorem pairR_snoc {s:List Rw} {i:Nat} {x:Rw} (t:List Rw) (h:s[i]?=some x):pairR (s.take (i+1)) t=pairR (s.take i) t++rowJ x t:=by
 unfold pairR;rw [tSz h,List.flatMap_append];simp
theorem rowJ_yes {t:List Rw} {k:Nat} {x y:Rw} (h:t[k]?=some y) (e:x.1.1.1=y.1.1.1):rowJ x (t.take (k+1))=rowJ x (t.take k)++[(jnS x.1 y.1,x.2*y.2)]:=by
 unfold rowJ;rw [tSz h,List.filter_append,List.map_append];simp [e]
theorem rowJ_no {t:List Rw} {k:Nat} {x y:Rw} (h:t[k]?=some y) (e:x.1.1.1≠y.1.1.1):rowJ x (t.take (k+1))=rowJ x (t.take k):=by
 unfold rowJ;rw [tSz h,List.filter_append,List.map_append];simp [e]
theorem rowJ_len (x:Rw) (t:List Rw):(rowJ x t).length<=t.length:=by unfold rowJ;rw [List.length_map];exact List.length_filter_le _ _
theorem prod_row {a b:Int} (ha : -99999<=a/\a<=99999) (hb : -99999<=b/\b<=99999) : -10000000000<=a*b/\a*b<=10000000000:=by
 have h1:(a*b).natAbs<=99999*99999:=by rw [Int.natAbs_mul];exact Nat.mul_le_mul (by omega) (by omega)
 omega
theorem pairR_big {s t:List Rw} (hs:rokB s=true) (ht:rokB t=true):absum (pairR s t)<=1600000000000000:=by
 have h1:=pairR_small (rok_absF hs) (rok_absF ht);omega
theorem pairR_sp {s t:List Rw} (hs:rokB s=true) (ht:rokB t=true):∀ r∈pairR s t,spOk r.1:=fun r hr=>by
 obtain ⟨⟨h1,h2,h3,h4⟩,h5⟩:=pairR_key hs ht r hr;rw [okB_iff] at h5;unfold spOk fit63;omega
theorem l11Join_any (v u:Value) (s t:List Rw) (w:World) (h:Rs w v s) (h':Rs w u t) (hk:rokB s=true) (hk':rokB t=true) :
  Calls Tryz.prog 189 #[v,u] w fun e w'=>∃ o:Value,e= .returned o/\OwnR w' w.heap.size o (sumL ltS (pairR s t))/\Below w.heap.size w w':=by
 have oE:=oEz w rfl;have hbE:=bAz (Below.refl _ w) (.cells #[] 55);have hls:=rLz hk;have hlt':=rLz hk';have HKS:Hid (∀ (k:Nat) (K V A B D:Int),s[k]?=some (((K,V),(A,B)),D)->0<=K/\K<=3/\0<=V/\V<=99/\okB A B=true):=rok_kt hk;have HKT:Hid (∀ (k:Nat) (K V A B D:Int),t[k]?=some (((K,V),(A,B)),D)->0<=K/\K<=3/\0<=V/\V<=99/\okB A B=true):=rok_kt hk';have HL:Hid (∀ i,(pairR (s.take i) t).length<=160000):=fun i=>by
  have h1:=pairR_len (s.take i) t;have h2:(s.take i).length*t.length<=400*400:=Nat.mul_le_mul (by rw [List.length_take];omega) hlt';omega
 have HA:Hid (absum (pairR s t)<=1600000000000000):=pairR_big hk hk';have HAS:Hid (∀ (k:Nat) (r:Rw),s[k]?=some r -> -99999<=r.2/\r.2<=99999):=fun k r hr=>rw_diff (rok_at hk (List.mem_of_getElem? hr));have HAT:Hid (∀ (k:Nat) (r:Rw),t[k]?=some r -> -99999<=r.2/\r.2<=99999):=fun k r hr=>rw_diff (rok_at hk' (List.mem_of_getElem? hr));obtain ⟨aS,cS,rfl,hcS,hmS,hnS,hcellS⟩:=Rs.open h;obtain ⟨aT,cT,rfl,hcT,hmT,hnT,hcellT⟩:=Rs.open h';unfold maxLen at hmS hmT;have HCS:=(show Hid _ from hcellS);have HCT:=(show Hid _ from hcellT);clear hcellS hcellT h h' hk hk';go_enter Tryz.func189,Tryz.ntmps189;go_wp2_with fail
 go_loopw [5,6] (fun o i wr=>∃ k:Nat,k<=s.length/\i= .int .i64 k/\OwnR wr w.heap.size o (pairR (s.take k) t)/\Below w.heap.size w wr) (fun _ i _=>s.length-(intOf i).toNat)
 case atStart=>exact ⟨0,by omega,rfl,by simpa [pairR] using oE,hbE⟩
 case round =>
  clear oE hbE;obtain ⟨i,his,rfl,hown,hb⟩:=hrel;have HO:Hid (OwnR wr w.heap.size u5 (pairR (s.take i) t)):=hown;clear hown
  by_cases hlt:i<s.length
  ·obtain ⟨g,off,K,V,A,B,D,rfl,hg,hr,c0,c1,c2,c3,c4⟩:=HCS.out i hlt;have ii:((i:Int)<(s.length:Int)):=by omega
   have HZ:=(show Hid _ from pairR_snoc t hr);obtain ⟨i1,i2,i3,i4,-⟩:=HKS.out i _ _ _ _ _ hr;obtain ⟨hD1,hD2⟩:=HAS.out i _ hr;simp only at hD1 hD2;have hPl:=HL.out i;clear hr;generalize hP:pairR (s.take i) t=P at *;clear hP;go_wp2_with fail
   go_loopw [5,7] (fun o i wr=>∃ k:Nat,k<=t.length/\i= .int .i64 k/\OwnR wr w.heap.size o (P++rowJ (((K,V),(A,B)),D) (t.take k))/\Below w.heap.size w wr) (fun _ i _=>t.length-(intOf i).toNat)
   case atStart=>exact ⟨0,by omega,rfl,by have:=HO.out;simpa [rowJ] using this,hb⟩
   case round =>
    clear HO hb;obtain ⟨k,hkt,rfl,hown,hb⟩:=hrel
    by_cases hlt2:k<t.length
    ·obtain ⟨g2,off2,K2,V2,A2,B2,D2,rfl,hg2,hr2,p0,p1,p2,p3,p4⟩:=HCT.out k hlt2;have ik:((k:Int)<(t.length:Int)):=by omega
     obtain ⟨j1,j2,j3,j4,-⟩:=HKT.out k _ _ _ _ _ hr2;obtain ⟨hE1,hE2⟩:=HAT.out k _ hr2;simp only at hE1 hE2;have hLL:(P++rowJ (((K,V),(A,B)),D) (t.take k)).length<=500000:=by
      have:=rowJ_len (((K,V),(A,B)),D) (t.take k);rw [List.length_append];simp at this;omega
     have HX:Hid (∀ W,Below w.heap.size w W->(W.cell? ⟨g,off+i*5,none⟩=some (.int .i64 K)/\W.cell? ⟨g,off+i*5+1,none⟩=some (.int .i64 V)/\W.cell? ⟨g,off+i*5+2,none⟩=some (.int .i64 A)/\W.cell? ⟨g,off+i*5+3,none⟩=some (.int .i64 B)/\W.cell? ⟨g,off+i*5+4,none⟩=some (.int .i64 D)) /\
       W.cell? ⟨g2,off2+k*5,none⟩=some (.int .i64 K2)/\W.cell? ⟨g2,off2+k*5+1,none⟩=some (.int .i64 V2)/\W.cell? ⟨g2,off2+k*5+2,none⟩=some (.int .i64 A2)/\W.cell? ⟨g2,off2+k*5+3,none⟩=some (.int .i64 B2)/\W.cell? ⟨g2,off2+k*5+4,none⟩=some (.int .i64 D2)) :=
      fun W hW=>⟨⟨cB hW c0,cB hW c1,cB hW c2,cB hW c3,cB hW c4⟩,cB hW p0,cB hW p1,cB hW p2,cB hW p3,cB hW p4⟩
     obtain ⟨⟨d0,-,-,-,-⟩,e0,-,-,-,-⟩:=HX.out _ hb
     by_cases hK:K=K2
     ·subst hK;have HY:=(show Hid _ from rowJ_yes (x:=(((K,V),(A,B)),D)) hr2 rfl);have hmu:=prod_row ⟨hD1,hD2⟩ ⟨hE1,hE2⟩;have iw:IntKind.i64.wrap (D*D2)=D*D2:=by rw [IntKind.wrap_i64]<;>omega
      clear p0 p1 p2 p3 p4 hr2;simp only [jnS] at HY;generalize hLLe:P++rowJ (((K,V),(A,B)),D) (t.take k)=LL at *;have HLLe:Hid (P++rowJ (((K,V),(A,B)),D) (t.take k)=LL):=hLLe;clear hLLe;have HO2:Hid (OwnR wr w.heap.size u5 LL):=hown;clear hown;go_wp2_with fail
      go_quiet (fail)
      have hbq:Below w.heap.size w (wr.drewN nq):=bDz hb _;have hl2:LL.length<=2000000:=by omega
      have hcur:Below w.heap.size w (wr.drewN (nq+1))/\OwnR (wr.drewN (nq+1)) w.heap.size u5 LL:=⟨bDz hb _,oK HO2.out (bDz (Below.refl _ _) _)⟩;have HC1:Hid (∀ W wc,(Below w.heap.size w W/\OwnR W w.heap.size u5 LL)->Below W.heap.size W wc->(Below w.heap.size w wc/\OwnR wc w.heap.size u5 LL)):=fun W wc hW hbc=>⟨bSz hW.1 hbc,oK hW.2 hbc⟩;have HC2:Hid (∀ (wc w7:World) (ob:Obj),(Below w.heap.size w wc/\OwnR wc w.heap.size u5 LL)->(wc.alloc ob).grownBy w7 u5.ownBlock->Below w.heap.size w w7):=fun wc w7 ob h1 h3 =>
       Below.grew (bAz h1.1 _) h3 (bAz h1.1 ob).size (oB h1.2)
      have HC3:Hid (∀ (wc:World) (ob:Obj),(Below w.heap.size w wc/\OwnR wc w.heap.size u5 LL)->w.heap.size<=(wc.alloc ob).heap.size):=fun wc ob h1=>(bAz h1.1 ob).size;clear d0 e0;obtain ⟨⟨d0,d1,d2,d3,d4⟩,e0,e1,e2,e3,e4⟩:=HX.out _ hbq;go_wp2_with fail
      go_region_held3 (fun W=>(W.cell? ⟨g,off+i*5,none⟩=some (.int .i64 K)/\W.cell? ⟨g,off+i*5+1,none⟩=some (.int .i64 V)/\W.cell? ⟨g,off+i*5+2,none⟩=some (.int .i64 A)/\W.cell? ⟨g,off+i*5+3,none⟩=some (.int .i64 B)/\W.cell? ⟨g,off+i*5+4,none⟩=some (.int .i64 D)) /\
        W.cell? ⟨g2,off2+k*5,none⟩=some (.int .i64 K)/\W.cell? ⟨g2,off2+k*5+1,none⟩=some (.int .i64 V2)/\W.cell? ⟨g2,off2+k*5+2,none⟩=some (.int .i64 A2)/\W.cell? ⟨g2,off2+k*5+3,none⟩=some (.int .i64 B2)/\W.cell? ⟨g2,off2+k*5+4,none⟩=some (.int .i64 D2))
       (first|exact HX.out _ hb7|exact HX.out _ hcur.1|exact HX.out _ (bAz hcur.1 _))
       (first
        | (go_at_call 229;with_reducible refine (l3Pair_any i3 i4 j3 j4 _).mono ?_;rintro e wc ⟨rfl,hbc⟩;replace hcur:=HC1.out _ _ hcur hbc)
        | (go_at_call 130;with_reducible refine (specJoin_any A B A2 B2 _).mono ?_;rintro e wc ⟨rfl,hbc⟩;replace hcur:=HC1.out _ _ hcur hbc)
        | (refine stepR _ (by rfl) _ _ (by rfl) w.heap.size _ LL (by rfl) (hcur.2.alloc _) _ K (pv V V2) (jnA A B A2 B2) (jnB A B A2 B2) (D*D2) (by rfl) (Bk.new _ _ rfl) hl2 (HC3.out _ _ hcur) ?_;intro g7 cap7 w7 own7 hgrow hlg;have hb7:=HC2.out _ _ _ hcur hgrow))
      all_goals
       go_wp2_with fail;go_roundw
       case rel=>exact ⟨k+1,by omega,by go_num,by rw [HY.out,<-List.append_assoc,HLLe.out];exact own7,hb7⟩
       case measure=>simp [intOf];omega
     ·have HY:=(show Hid _ from rowJ_no (x:=(((K,V),(A,B)),D)) hr2 hK);have nx:(K==K2)=false:=beq_eq_false_iff_ne.2 hK;have HO2:Hid (OwnR wr w.heap.size u5 (P++rowJ (((K,V),(A,B)),D) (t.take k))):=hown;clear p0 p1 p2 p3 p4 hr2 hown;go_wp2_with fail
      go_quiet (fail)
      have hbq:Below w.heap.size w (wr.drewN nq):=bDz hb _;go_wp2_with fail;go_roundw
      case rel=>exact ⟨k+1,by omega,by go_num,by rw [HY.out];exact oK HO2.out (bDz (Below.refl _ _) _),hbq⟩
      case measure=>simp [intOf];omega
    ·obtain rfl:k=t.length:=by omega
     rw [List.take_length] at hown;rw [<- HZ.out] at hown;go_wp2_with fail;go_roundw
     case rel=>exact ⟨i+1,by omega,by go_num,hown,hb⟩
     case measure=>simp [intOf];omega
  ·obtain rfl:i=s.length:=by omega
   have hle:=HL.out s.length;have R1:Rs wr u5 (pairR s t):=by have:=HO.out;rw [List.take_length] at this hle;exact OwnR.rs this (by omega)
   rw [List.take_length] at hle;have hsz:=hb.size;clear HO;go_wp2_with fail;refine (l2Sum_any _ (pairR s t) _ R1 (by omega) (by have:=HA.out;omega)).mono ?_;rintro e w3 ⟨o3,rfl,own3,hb3⟩;have O3:Hid (OwnR w3 wr.heap.size o3 (sumL ltS (pairR s t))):=own3;clear own3;go_wp2_with fail;go_ret;exact ⟨_,rfl,oLz O3.out hsz,bSz hb hb3⟩
open Go.Shelf
attribute [local go_sem] Oper.semAt_some
def arrOf (W:World) (m:Nat):Option Nat:=(W.cell? ⟨m,0,none⟩).bind Value.ownBlock
structure KpA (m:Nat) (W W':World):Prop where
 size:W.heap.size<=W'.heap.size
 keep:∀ (k:Nat) (o:Obj),W.heap[k]?=some o->o.isCells=true->k≠m->arrOf W m≠some k->W'.heap[k]?=some o
 arr:arrOf W' m=arrOf W m\/∃ q,arrOf W' m=some q/\W.heap.size<=q/\q<W'.heap.size
theorem KpA.trans {m:Nat} {A B C:World} (h:KpA m A B) (k:KpA m B C):KpA m A C where
 size:=Nat.le_trans h.size k.size
 keep i o hi ho hm ha:=by
  have hlt:=(Array.getElem?_eq_some_iff.1 hi).1;refine k.keep i o (h.keep i o hi ho hm ha) ho hm ?_
  rcases h.arr with e|⟨q,e,hq,_⟩
  ·rw [e];exact ha
  ·rw [e];intro e';cases e';omega
 arr:=by
  rcases k.arr with e|⟨q,e,hq,hq'⟩
  ·rcases h.arr with e1|⟨q,e1,hq,hq'⟩
   ·exact .inl (e.trans e1)
   ·exact .inr ⟨q,e.trans e1,hq,Nat.lt_of_lt_of_le hq' k.size⟩
  ·exact .inr ⟨q,e,Nat.le_trans h.size hq,hq'⟩
theorem aB {m:Nat} {W W':World} (h:W'.heap[m]?=W.heap[m]?):arrOf W' m=arrOf W m:=by
 unfold arrOf;rw [World.cell?_of_block (w:=W) h]
theorem KpA.put {m:Nat} (W:World) (l:Nat) (o o':Obj) (hm:m<l) (h:W.heap[l]?=some o) (ho:o.isCells=false):KpA m W (W.putObj l o'):=by
 have hg:=grownBy_putObj' W l o';have hl:=(Array.getElem?_eq_some_iff.1 h).1;refine ⟨hg.size,fun k q hk hq _ _=>?_, .inl (aB (hg.block m (by omega) (fun e=>by cases e;omega)))⟩;rw [hg.block k (Array.getElem?_eq_some_iff.1 hk).1 (fun e=>by cases e;rw [h] at hk;cases hk;rw [ho] at hq;cases hq)];exact hk
theorem KpA.bk {m:Nat} {W W':World} {k:Nat} {c:Array Value} {t:TypeId} (h:KpA m W W') (hb:Bk W k c t) (hk:k≠m) (ha:arrOf W m≠some k):Bk W' k c t:=h.keep k _ hb rfl hk ha
def Kc (w W:World):Prop:=∀ (k:Nat) (o:Obj),w.heap[k]?=some o->o.isCells=true->W.heap[k]?=some o
theorem Kc.of_below {w W:World} (h:Below w.heap.size w W):Kc w W:=fun k o hk _=>by rw [h.block k (Array.getElem?_eq_some_iff.1 hk).1];exact hk
theorem Kc.step {w W W':World} (h:Kc w W) (hb:Below W.heap.size W W'):Kc w W':=fun k o hk ho=>by
 have h1:=h k o hk ho;rw [hb.block k (Array.getElem?_eq_some_iff.1 h1).1];exact h1
theorem Kc.kpa {m:Nat} {w W W':World} (h:Kc w W) (hk:KpA m W W') (hm:w.heap.size<=m) (ha:∀ q,arrOf W m=some q->w.heap.size<=q):Kc w W':=fun k o hk' ho=>by
 have hlt:=(Array.getElem?_eq_some_iff.1 hk').1;exact hk.keep k o (h k o hk' ho) ho (by omega) (fun e=>by have:=ha k e;omega)
theorem Kc.cell {w W:World} (h:Kc w W) {g i:Nat} {v:Value} (hc:w.cell? ⟨g,i,none⟩=some v):W.cell? ⟨g,i,none⟩=some v:=by
 have hlt:=lC hc;have e:w.heap[g]?=some w.heap[g]:=Array.getElem?_eq_getElem hlt;have ho:w.heap[g].isCells=true:=by
  unfold World.cell? at hc;simp only [e] at hc
  revert hc
  cases w.heap[g]<;>simp [Obj.isCells]
 rw [World.cell?_of_block (w:=w) ((h g _ e ho).trans e.symm)];exact hc
theorem KpA.below {m:Nat} {W W':World} (h:Below W.heap.size W W') (hm:m<W.heap.size):KpA m W W' :=
 ⟨h.size,fun k _ hk _ _ _=>by rw [h.block k (Array.getElem?_eq_some_iff.1 hk).1];exact hk, .inl (aB (h.block m hm))⟩
theorem KpA.grow {m:Nat} {W W1:World} {v u:Value} {t:TypeId} (hb:Bk W m #[v] t) (hg:W.grownBy W1 v.ownBlock) (hv:v.ownBlock≠some m) (hu:u.ownBlock=v.ownBlock\/∃ q,u.ownBlock=some q/\W.heap.size<=q/\q<W1.heap.size) :
  KpA m W (W1.setCell ⟨m,0,none⟩ u):=by
 have hm:=hb.lt;have e0:arrOf W m=v.ownBlock:=by unfold arrOf;rw [hb.cell (i:=0) (v:=v) rfl];rfl
 have hb1:Bk W1 m #[v] t:=by
  unfold Bk;rw [hg.block m hm (fun e=>hv e.symm)];exact hb
 have hb2:=hb1.set 0 u;have e1:arrOf (W1.setCell ⟨m,0,none⟩ u) m=u.ownBlock:=by unfold arrOf;rw [hb2.cell (i:=0) (v:=u) (by simp)];rfl
 have hz:(W1.setCell ⟨m,0,none⟩ u).heap.size=W1.heap.size:=by simp
 refine ⟨by rw [hz];exact hg.size,fun k o hk _ hkm ha=>?_,?_⟩
 ·rw [Below.heap_setCell _ _ _ _ (show k≠(⟨m,0,none⟩:Addr).block from hkm),hg.block k (Array.getElem?_eq_some_iff.1 hk).1 (fun e=>ha (by rw [e0,e]))];exact hk
 ·rw [e1,e0,hz];exact hu
def prRow (x:Rw) (t:List Rw):List (Rw×Rw):=(t.filter fun y=>decide (x.1.1.1=y.1.1.1)).map fun y=>(x,y)
def prL (s t:List Rw):List (Rw×Rw):=s.flatMap fun x=>prRow x t
theorem prL_snoc {s:List Rw} {i:Nat} {x:Rw} (t:List Rw) (h:s[i]?=some x):prL (s.take (i+1)) t=prL (s.take i) t++prRow x t:=by
 unfold prL;rw [tSz h,List.flatMap_append];simp
theorem prRow_yes {t:List Rw} {k:Nat} {x y:Rw} (h:t[k]?=some y) (e:x.1.1.1=y.1.1.1):prRow x (t.take (k+1))=prRow x (t.take k)++[(x,y)]:=by
 unfold prRow;rw [tSz h,List.filter_append,List.map_append];simp [e]
theorem prRow_no {t:List Rw} {k:Nat} {x y:Rw} (h:t[k]?=some y) (e:x.1.1.1≠y.1.1.1):prRow x (t.take (k+1))=prRow x (t.take k):=by
 unfold prRow;rw [tSz h,List.filter_append,List.map_append];simp [e]
theorem prRow_len (x:Rw) (t:List Rw):(prRow x t).length<=t.length:=by unfold prRow;rw [List.length_map];exact List.length_filter_le _ _
theorem prL_len (s t:List Rw):(prL s t).length<=s.length*t.length:=by
 induction s with
 | nil=>simp [prL]
 | cons x s ih =>
  show (prRow x t++prL s t).length<=_
  have:=prRow_len x t;rw [List.length_append,List.length_cons,Nat.add_mul];omega
def jnP (p:Rw×Rw):Rw:=(jnS p.1.1 p.2.1,p.1.2*p.2.2)
theorem prL_rows (s t:List Rw):(prL s t).map jnP=pairR s t:=by
 unfold prL pairR prRow rowJ
 induction s with
 | nil=>rfl
 | cons x s ih=>simp only [List.flatMap_cons,List.map_append,ih,List.map_map];rfl
abbrev XP:={ p:Rw×Rw // rwOkB p.1=true/\rwOkB p.2=true/\p.1.1.1.1=p.2.1.1.1 }
abbrev rvR (r:Rw):Value:=rv r.1.1.1 r.1.1.2 r.1.2.1 r.1.2.2 r.2
abbrev encP (z:XP):Array Value:=#[rvR z.1.1,rvR z.1.2]
theorem pairs_any (a b:Option Addr) (n m cap cap':Nat) (w:World) :
  Calls Tryz.prog 222 #[.slice a n cap, .slice b m cap'] w fun e w'=>e= .returned (.func (.func 244) #[] #[.pointer (some ⟨w.heap.size,0,none⟩), .pointer (some ⟨w.heap.size+1,0,none⟩)])/\w'=(w.alloc (.cells #[.slice a n cap] 28)).alloc (.cells #[.slice b m cap'] 28):=by
 go_enter Tryz.func222,Tryz.ntmps222;go_wp2_with fail;go_ret;exact ⟨rfl,rfl⟩
attribute [local go_sem] Oper.semAt_some
theorem pairs1_in (lp b1 b2 m N:Nat) (a b:Option Addr) (cap cap':Nat) (s t:List Rw) (J Jx:List XP->World->Prop) (w W:World)
  (hJ:∀ pre A B,J pre A->Below A.heap.size A B->J pre B)
  (hY:∀ pre z W,J pre W->pre.length<160000->YieldAt Fence.wide (3-1) Tryz.prog lp (encP z) W fun e W' =>
   (e= .returned (.bool true)/\J (pre++[z]) W'/\KpA m W W')\/(e= .returned (.bool false)/\Jx (pre++[z]) W'))
  (hk:rokB s=true) (hk':rokB t=true) (hRs:Rs w (.slice a s.length cap) s) (hRt:Rs w (.slice b t.length cap') t) (hwm:w.heap.size<=m) (hmN:m<N) (hNW:N<=W.heap.size) (hKc:Kc w W)
  (hb1:Bk W b1 #[.slice a s.length cap] 28) (hb2:Bk W b2 #[.slice b t.length cap'] 28) (h2N:b2<N) (h2m:b2≠m) (ha0:arrOf W m=none) (h0:J [] W) :
  CallsIn Fence.wide 3 Tryz.prog 244 #[.func (.yield lp) #[] #[], .pointer (some ⟨b1,0,none⟩), .pointer (some ⟨b2,0,none⟩)] W fun e W'=>(∃ v,e= .returned v) /\
   ((∃ ys:List XP,ys.map (·.1)=prL s t/\J ys W')\/(∃ pre,True/\Jx pre W')):=by
 have d0:=hb1.cell (i:=0) (v:= .slice a s.length cap) rfl;have hl:=rLz hk;have hl':=rLz hk';have HKS:Hid (∀ (k:Nat) (r:Rw),s[k]?=some r->rwOkB r=true):=fun k r hr=>rok_at hk (List.mem_of_getElem? hr);have HKT:Hid (∀ (k:Nat) (r:Rw),t[k]?=some r->rwOkB r=true):=fun k r hr=>rok_at hk' (List.mem_of_getElem? hr);have HLN:Hid (∀ i,i<s.length->∀ j,j<=t.length->∀ x,(prL (s.take i) t++prRow x (t.take j)).length<=159999+1/\(j<t.length->(prL (s.take i) t++prRow x (t.take j)).length<160000)):=fun i hi j hj x=>by
  have h1:=prL_len (s.take i) t;have h2:=prRow_len x (t.take j);have h3:(s.take i).length*t.length<=399*400:=Nat.mul_le_mul (by rw [List.length_take];omega) hl';rw [List.length_take] at h2;rw [List.length_append];omega
 obtain ⟨a',c',e,hc,hm,hn,hcells⟩:=Rs.open hRs;cases e;obtain ⟨a',c',e,hc',hm',hn',hcells'⟩:=Rs.open hRt;cases e;unfold maxLen at hm hm';have HC:=(show Hid _ from hcells);have HD:=(show Hid _ from hcells');clear hcells hcells' hRs hRt hk hk';refine callsIn_of_wp Tryz.func244 rfl trivial ?_ rfl;simp only [Tryz.ntmps244,List.size_toArray,List.length_cons,List.length_nil,Nat.reduceAdd,Nat.reduceSub,Array.replicate_succ,Array.replicate_zero,List.push_toArray,List.append_toArray,List.nil_append,List.cons_append]
 gi_wp2
 gi_loopw [10] (fun i wr=>∃ (k:Nat) (pre:List XP),k<=s.length/\i= .int .i64 k/\pre.map (·.1)=prL (s.take k) t/\J pre wr/\Kc w wr/\N<=wr.heap.size/\Bk wr b2 #[.slice b t.length cap'] 28/\(∀ q,arrOf wr m=some q->N<=q/\q<wr.heap.size)) (fun i _=>s.length-(intOf i).toNat)
 case atStart=>exact ⟨0,[],by omega,rfl,by simp [prL],h0,hKc,hNW,hb2,fun q e=>by rw [ha0] at e;cases e⟩
 case round =>
  clear d0 h0 hKc hNW hb2 hb1 ha0;obtain ⟨i,pre,his,rfl,hpre,hJp,hKc,hNr,hb2,hAr⟩:=hrel
  by_cases hlt:i<s.length
  ·obtain ⟨g,off,K,V,A,B,D,rfl,hg,hr,c0,c1,c2,c3,c4⟩:=HC.out i hlt;have HR:=(show Hid _ from hr);have q0:=hKc.cell c0;have q1:=hKc.cell c1;have q2:=hKc.cell c2;have q3:=hKc.cell c3;have q4:=hKc.cell c4;have ii:((i:Int)<(s.length:Int)):=by omega
   have hba:Below wr.heap.size wr (wr.alloc (.cells #[.int .i64 K, .int .i64 V, .int .i64 A, .int .i64 B, .int .i64 D] 55)):=bAz (Below.refl _ _) _;have bx0:Bk (wr.alloc (.cells #[.int .i64 K, .int .i64 V, .int .i64 A, .int .i64 B, .int .i64 D] 55)) wr.heap.size #[.int .i64 K, .int .i64 V, .int .i64 A, .int .i64 B, .int .i64 D] 55:=Bk.new _ _ rfl;have hb2a:=hb2.keep hba;have hKa:=hKc.step hba;have hJa:=hJ _ _ _ hJp hba;have e2:=hb2a.cell (i:=0) (v:= .slice b t.length cap') rfl;have hAa:∀ q,arrOf (wr.alloc (.cells #[.int .i64 K, .int .i64 V, .int .i64 A, .int .i64 B, .int .i64 D] 55)) m=some q->N<=q/\q<(wr.alloc (.cells #[.int .i64 K, .int .i64 V, .int .i64 A, .int .i64 B, .int .i64 D] 55)).heap.size/\q≠wr.heap.size:=fun q e=>by
    rw [aB (hba.block m (by omega))] at e;have:=hAr q e;refine ⟨this.1,?_,by omega⟩;simp;omega
   have hNa:N<=(wr.alloc (.cells #[.int .i64 K, .int .i64 V, .int .i64 A, .int .i64 B, .int .i64 D] 55)).heap.size:=by simp;omega
   have hNx:N<=wr.heap.size:=hNr;clear c0 c1 c2 c3 c4 hr hb2 hKc hJp hAr hba
   gi_wp2
   clear q0 q1 q2 q3 q4 e2 hNr;generalize wr.heap.size=xb at *;generalize World.alloc _ _=wx at *
   gi_loopw [16] (fun j wr=>∃ (k:Nat) (pre:List XP),k<=t.length/\j= .int .i64 k/\pre.map (·.1)=prL (s.take i) t++prRow (((K,V),(A,B)),D) (t.take k)/\J pre wr/\Kc w wr/\N<=wr.heap.size/\Bk wr b2 #[.slice b t.length cap'] 28/\Bk wr xb #[.int .i64 K, .int .i64 V, .int .i64 A, .int .i64 B, .int .i64 D] 55/\(∀ q,arrOf wr m=some q->N<=q/\q<wr.heap.size/\q≠xb)) (fun j _=>t.length-(intOf j).toNat)
   case atStart=>exact ⟨0,pre,by omega,rfl,by rw [hpre];simp [prRow],hJa,hKa,hNa,hb2a,bx0,hAa⟩
   case round =>
    clear hJa hKa hNa hb2a bx0 hAa hpre;obtain ⟨k,pre,hkt,rfl,hpre,hJp,hKc,hNr,hb2,hbx,hAr⟩:=hrel
    by_cases hlt2:k<t.length
    ·obtain ⟨g2,off2,K2,V2,A2,B2,D2,rfl,hg2,hr2,c0,c1,c2,c3,c4⟩:=HD.out k hlt2;have HR2:=(show Hid _ from hr2);have q0:=hKc.cell c0;have q1:=hKc.cell c1;have q2:=hKc.cell c2;have q3:=hKc.cell c3;have q4:=hKc.cell c4;have ik:((k:Int)<(t.length:Int)):=by omega
     have hba:Below wr.heap.size wr (wr.alloc (.cells #[.int .i64 K2, .int .i64 V2, .int .i64 A2, .int .i64 B2, .int .i64 D2] 55)):=bAz (Below.refl _ _) _;have by0:Bk (wr.alloc (.cells #[.int .i64 K2, .int .i64 V2, .int .i64 A2, .int .i64 B2, .int .i64 D2] 55)) wr.heap.size #[.int .i64 K2, .int .i64 V2, .int .i64 A2, .int .i64 B2, .int .i64 D2] 55:=Bk.new _ _ rfl;have hb2a:=hb2.keep hba;have hbxa:=hbx.keep hba;have hKa:=hKc.step hba;have hJa:=hJ _ _ _ hJp hba;have hAa:∀ q,arrOf (wr.alloc (.cells #[.int .i64 K2, .int .i64 V2, .int .i64 A2, .int .i64 B2, .int .i64 D2] 55)) m=some q->N<=q/\q<(wr.alloc (.cells #[.int .i64 K2, .int .i64 V2, .int .i64 A2, .int .i64 B2, .int .i64 D2] 55)).heap.size/\q≠xb:=fun q e=>by
      rw [aB (hba.block m (by omega))] at e;have:=hAr q e;refine ⟨this.1,?_,this.2.2⟩;simp;omega
     have hNa:N<=(wr.alloc (.cells #[.int .i64 K2, .int .i64 V2, .int .i64 A2, .int .i64 B2, .int .i64 D2] 55)).heap.size:=by simp;omega
     have hxlt:=hbxa.lt;obtain ⟨x0,x1,x2,x3,x4⟩:=hbxa.five;obtain ⟨y0,y1,y2,y3,y4⟩:=by0.five;clear c0 c1 c2 c3 c4 hr2 hb2 hKc hJp hAr hba hbx
     by_cases hK:K=K2
     ·subst hK;have hLN:=(HLN.out i hlt k hkt (((K,V),(A,B)),D)).2 hlt2;have hpl:pre.length<160000:=by have h1:=congrArg List.length hpre;simp only [List.length_map] at h1;omega
      have HZ:Hid (prRow (((K,V),(A,B)),D) (t.take (k+1))=prRow (((K,V),(A,B)),D) (t.take k)++[((((K,V),(A,B)),D),(((K,V2),(A2,B2)),D2))]):=prRow_yes HR2.out rfl;have hok1:=HKS.out i _ HR.out;have hok2:=HKT.out k _ HR2.out;obtain ⟨fn,tmps,assign,body,hy,hR⟩:=hY pre ⟨((((K,V),(A,B)),D),(((K,V2),(A2,B2)),D2)),hok1,hok2,rfl⟩ _ hJa hpl
      gi_wp2
      refine hR.mono ?_;rintro e W3 (⟨rfl,hJ4,hk4⟩|⟨rfl,hJx4⟩)
      ·have hb24:=hk4.bk hb2a h2m (fun e=>by have:=hAa _ e;omega);have hbx4:=hk4.bk hbxa (by omega) (fun e=>(hAa _ e).2.2 rfl);have hK4:=hKa.kpa hk4 hwm (fun q e=>by have:=hAa q e;omega);have hs4:=hk4.size;have hA4:∀ q,arrOf W3 m=some q->N<=q/\q<W3.heap.size/\q≠xb:=fun q e=>by
        rcases hk4.arr with e1|⟨q',e1,h1,h2⟩
        ·rw [e1] at e;have:=hAa q e;exact ⟨this.1,by omega,this.2.2⟩
        ·rw [e1] at e;cases e;exact ⟨by omega,h2,by omega⟩
       clear hR hy x0 x1 x2 x3 x4 y0 y1 y2 y3 y4 q0 q1 q2 q3 q4
       gi_wp2
       go_roundw
       case rel=>exact ⟨k+1,pre++[⟨((((K,V),(A,B)),D),(((K,V2),(A2,B2)),D2)),hok1,hok2,rfl⟩],by omega,by go_num,by rw [HZ.out,List.map_append,hpre,List.append_assoc];rfl,hJ4,hK4,by omega,hb24,hbx4,hA4⟩
       case measure=>simp [intOf];omega
      ·clear hR hy
       gi_wp2
       refine bodyPost_ret (results_none rfl _ _ _) rfl ?_;exact ⟨⟨_,rfl⟩, .inr ⟨_,trivial,hJx4⟩⟩
     ·have HZ:Hid (prRow (((K,V),(A,B)),D) (t.take (k+1))=prRow (((K,V),(A,B)),D) (t.take k)):=prRow_no HR2.out hK;have nx:(K==K2)=false:=beq_eq_false_iff_ne.2 hK
      gi_wp2
      refine ⟨fun _ h=>(by cases h),?_⟩
      gi_wp2
      go_roundw
      case rel=>exact ⟨k+1,pre,by omega,by go_num,by rw [HZ.out];exact hpre,hJa,hKa,hNa,hb2a,hbxa,hAa⟩
      case measure=>simp [intOf];omega
    ·obtain rfl:k=t.length:=by omega
     gi_wp2
     go_roundw
     case rel=>exact ⟨i+1,pre,by omega,by go_num,by rw [hpre,List.take_length,<-prL_snoc t HR.out],hJp,hKc,hNr,hb2,fun q e=>⟨(hAr q e).1,(hAr q e).2.1⟩⟩
     case measure=>simp [intOf];omega
  ·obtain rfl:i=s.length:=by omega
   gi_wp2
   go_end0
   exact ⟨⟨_,rfl⟩, .inl ⟨pre,by rw [hpre,List.take_length],hJp⟩⟩
theorem pairs_stops (b1 b2 m:Nat) (a b:Option Addr) (cap cap':Nat) (s t:List Rw) (w w0:World) (hk:rokB s=true) (hk':rokB t=true) (hRs:Rs w (.slice a s.length cap) s) (hRt:Rs w (.slice b t.length cap') t)
  (hwm:w.heap.size<=m) (hm:m<w0.heap.size) (hKc:Kc w w0) (hb1:Bk w0 b1 #[.slice a s.length cap] 28) (hb2:Bk w0 b2 #[.slice b t.length cap'] 28) (h2m:b2≠m) (ha0:arrOf w0 m=none) :
  SeqStopsK Fence.wide 3 Tryz.prog 244 #[.pointer (some ⟨b1,0,none⟩), .pointer (some ⟨b2,0,none⟩)] encP (KpA m) (fun ys=>ys.map (·.1)=prL s t) (fun _=>True) 160000 w0 :=
 fun lp J Jx W hWb hJ _ hY h0 =>
  pairs1_in lp b1 b2 m w0.heap.size a b cap cap' s t J Jx w W (fun pre A B h hb=>hJ pre A B none h (grown_below hb) (fun r e=>by cases e)) hY hk hk' hRs hRt hwm hm hWb.size (hKc.step hWb)
   (hb1.keep hWb) (hb2.keep hWb) hb2.lt h2m (by rw [aB (hWb.block m hm)];exact ha0) h0
theorem wpAnyIn_inv {F:Fence} {n:Nat} {P:Program} {md:Region.Mode} {ops:Array Oper} {Q:Exit->Act->World->Prop} (Inv:Array Bool->Act->World->Prop)
  (hg:∀ (i:Nat) (o:Oper),ops[i]?=some o->o.guard=none)
  (hs:∀ L a w,Inv L a w->L.size=ops.size)
  (hstep:∀ L a w (i:Nat) (o:Oper),Inv L a w->i∈Region.ready md ops L->ops[i]?=some o->o.wpIn F n P a w (fun a' w'=>Inv (L.setIfInBounds i true) a' w') Q)
  (hend:∀ L a w,Inv L a w->Region.ready md ops L=[]->Q .normal a w) :
  ∀ (fuel:Nat) (L:Array Bool) (a:Act) (w:World),unN L<=fuel->Inv L a w->wpAnyIn F n P md ops Q fuel L a w:=by
 have hun:∀ L a w i,Inv L a w->i∈Region.ready md ops L->L[i]?=some false:=fun L a w i hI hi=>by
  obtain ⟨h1,o,ho,_⟩:=mem_ready.1 hi;have hlt:i<L.size:=by rw [hs L a w hI];exact (Array.getElem?_eq_some_iff.1 ho).1
  rw [Array.getElem?_eq_getElem hlt];simp [hlt] at h1;rw [h1]
 intro fuel
 induction fuel with
 | zero =>
  intro L a w hu hI;have he:Region.ready md ops L=[]:=by
   cases hr:Region.ready md ops L with
   | nil=>rfl
   | cons i r =>
    have:=unN_pos (hun L a w i hI (by rw [hr];simp));omega
  exact ⟨he,hend L a w hI he⟩
 | succ fuel ih =>
  intro L a w hu hI;refine ⟨fun he=>hend L a w hI he,fun i hi=>?_⟩;obtain ⟨_,o,ho,_⟩:=mem_ready.1 hi;have h1:=hstep L a w i o hI hi ho;have hw:Region.wanted o (yielded ops a.tmps)=true:=by simp [Region.wanted,hg i o ho]
  unfold wpOpIn;rw [ho];simp only [hw,if_true];refine Oper.wpIn_mono (fun a' w' hI'=>?_) h1;have:=unN_set (hun L a w i hI hi);exact ih _ a' w' (by omega) hI'
theorem wpIn_region_inv {F:Fence} {n:Nat} {P:Program} {ops:Array Oper} {Q:Exit->Act->World->Prop} {id:Nat} {a:Act} {w:World} (hm:P.follows .mixedOrders=true) (Inv:Array Bool->Act->World->Prop)
  (hg:∀ (i:Nat) (o:Oper),ops[i]?=some o->o.guard=none)
  (hs:∀ L a w,Inv L a w->L.size=ops.size)
  (h0:Inv (Array.replicate ops.size false) a w.drew)
  (hstep:∀ L a w (i:Nat) (o:Oper),Inv L a w->i∈Region.ready .any ops L->ops[i]?=some o->o.wpIn F n P a w (fun a' w'=>Inv (L.setIfInBounds i true) a' w') Q)
  (hend:∀ L a w,Inv L a w->Region.ready .any ops L=[]->Q .normal a w):(Code.region id ops true).wpIn F n P Q a w :=
 wpIn_region_any hm (wpAnyIn_inv Inv hg hs hstep hend ops.size _ _ _ (by rw [unN_new];exact Nat.le_refl _) h0)
theorem wpIn_append {l n:Nat} {P:Program} {o:Oper} {a:Act} {W W':World} {K:Act->World->Prop} {Q:Exit->Act->World->Prop} (s x:Operand) (t:TypeId) (ho:o.op= .call { callee:= .builtin .append,args:=#[s,x],argTypes:=#[t,t] })
  {v xx u:Value} (hs:a.eval s=v) (hx:a.eval x=xx) (hr:(Builtin.append_ #[t,t] o.type #[v,xx]).run P W= .ok u W') (h:K (a.put o.dst u) W'):o.wpIn (Fence.wide.inRound l) n P a W K Q:=by
 refine ⟨fun f _=>trivial,?_⟩;rw [Oper.semAt_eq _ _ _ (fun c e=>by rw [ho] at e;cases e)];unfold execOp;simp [ho,resolve,invoke,builtin,hs,hx,hr,Result.andThen];exact h
def DC (ops:Array Oper) (L:Array Bool):Prop:=∀ (i:Nat) (o:Oper),ops[i]?=some o->L.getD i false=true->∀ e∈o.after,Region.binds .any e=true->L.getD e.on false=true
theorem getD_put {L:Array Bool} {i j:Nat} (h:(L.setIfInBounds i true).getD j false=true):j=i\/L.getD j false=true:=by
 by_cases e:j=i
 ·exact .inl e
 ·right
  simp only [Array.getD_eq_getD_getElem?,Array.getElem?_setIfInBounds,if_neg (Ne.symm e)] at h ⊢;exact h
theorem gU {L:Array Bool} {i j:Nat} (h:L.getD j false=true):(L.setIfInBounds i true).getD j false=true:=by
 simp only [Array.getD_eq_getD_getElem?,Array.getElem?_setIfInBounds] at h ⊢
 by_cases e:i=j
 ·subst e
  by_cases hl:i<L.size
  ·simp [hl]
  ·rw [Array.getElem?_eq_none (by omega)] at h;simp at h
 ·rw [if_neg e];exact h
theorem wpIn_region_inv2 {F:Fence} {n:Nat} {P:Program} {ops:Array Oper} {Q:Exit->Act->World->Prop} {id:Nat} {a:Act} {w:World} (hm:P.follows .mixedOrders=true) (Inv:Array Bool->Act->World->Prop)
  (hg:∀ (i:Nat) (o:Oper),ops[i]?=some o->o.guard=none)
  (hs:∀ L a w,Inv L a w->L.size=ops.size)
  (h0:Inv (Array.replicate ops.size false) a w.drew)
  (hstep:∀ L a w (i:Nat) (o:Oper),DC ops L->Inv L a w->i∈Region.ready .any ops L->ops[i]?=some o->o.wpIn F n P a w (fun a' w'=>Inv (L.setIfInBounds i true) a' w') Q)
  (hend:∀ L a w,Inv L a w->Region.ready .any ops L=[]->Q .normal a w):(Code.region id ops true).wpIn F n P Q a w:=by
 refine wpIn_region_inv hm (fun L a w=>DC ops L/\Inv L a w) hg (fun L a w h=>hs L a w h.2) ⟨fun i o _ e=>by
  simp only [Array.getD_eq_getD_getElem?,Array.getElem?_replicate] at e
  split at e<;>simp at e,h0⟩ (fun L a w i o hI hi ho=>?_) (fun L a w h hr=>hend L a w h.2 hr)
 obtain ⟨_,o',ho',hall⟩:=mem_ready.1 hi;rw [ho] at ho';cases ho';refine Oper.wpIn_mono (fun a' w' h=>⟨fun j q hq hj e he hb=>?_,h⟩) (hstep L a w i o hI.1 hI.2 hi ho)
 rcases getD_put hj with rfl|hj
 ·rw [ho] at hq;cases hq;exact gU (hall e he hb)
 ·exact gU (hI.1 j q hq hj e he hb)
attribute [local go_sem] Oper.semAt_some
structure JnS (b1 b2:Nat) (v:Value) (K V A B D V2 A2 B2 D2 JA JB:Int) (L:Array Bool) (W:World) (t21 t22 t23 t24 t25 t26 t27 t28 t29 t30 t31 t32 t33 t34 t35 t36 t37 t38 t39 t40 t41:Value):Prop where
 s0:L.getD 0 false=true->t21=v
 s1:L.getD 1 false=true->t22= .pointer (some ⟨b1,0,none⟩)
 s2:L.getD 2 false=true->t23= .int .i64 K
 s3:L.getD 3 false=true->t24= .pointer (some ⟨b1,1,none⟩)
 s4:L.getD 4 false=true->t25= .int .i64 V
 s5:L.getD 5 false=true->t26= .pointer (some ⟨b2,1,none⟩)
 s6:L.getD 6 false=true->t27= .int .i64 V2
 s7:L.getD 7 false=true->t28= .int .i64 (pv V V2)
 s8:L.getD 8 false=true->t29= .pointer (some ⟨b1,2,none⟩)
 s9:L.getD 9 false=true->t30=tv A B
 s10:L.getD 10 false=true->t31= .pointer (some ⟨b2,2,none⟩)
 s11:L.getD 11 false=true->t32=tv A2 B2
 s12:L.getD 12 false=true->t33=tv JA JB
 s13:L.getD 13 false=true->t34= .pointer (some ⟨b1,4,none⟩)
 s14:L.getD 14 false=true->t35= .int .i64 D
 s15:L.getD 15 false=true->t36= .pointer (some ⟨b2,4,none⟩)
 s16:L.getD 16 false=true->t37= .int .i64 D2
 s17:L.getD 17 false=true->t38= .int .i64 (D*D2)
 s18:L.getD 18 false=true->t39=rv K (pv V V2) JA JB (D*D2)
 s19:L.getD 19 false=true->∃ g:Nat,t40= .slice (some ⟨g,0,none⟩) 1 1/\Bk W g #[.int .i64 K, .int .i64 (pv V V2), .int .i64 JA, .int .i64 JB, .int .i64 (D*D2)] 55
variable {b1 b2:Nat} {v:Value} {K V A B D V2 A2 B2 D2 JA JB:Int} {L:Array Bool} {W W':World} {t21 t22 t23 t24 t25 t26 t27 t28 t29 t30 t31 t32 t33 t34 t35 t36 t37 t38 t39 t40 t41:Value}
theorem JnS.keep (h:JnS b1 b2 v K V A B D V2 A2 B2 D2 JA JB L W t21 t22 t23 t24 t25 t26 t27 t28 t29 t30 t31 t32 t33 t34 t35 t36 t37 t38 t39 t40 t41) (hb:Below W.heap.size W W'):JnS b1 b2 v K V A B D V2 A2 B2 D2 JA JB L W' t21 t22 t23 t24 t25 t26 t27 t28 t29 t30 t31 t32 t33 t34 t35 t36 t37 t38 t39 t40 t41 where
 s0:=h.s0
 s1:=h.s1
 s2:=h.s2
 s3:=h.s3
 s4:=h.s4
 s5:=h.s5
 s6:=h.s6
 s7:=h.s7
 s8:=h.s8
 s9:=h.s9
 s10:=h.s10
 s11:=h.s11
 s12:=h.s12
 s13:=h.s13
 s14:=h.s14
 s15:=h.s15
 s16:=h.s16
 s17:=h.s17
 s18:=h.s18
 s19:=fun e=>by obtain ⟨g,h1,h2⟩:=h.s19 e;exact ⟨g,h1,h2.keep hb⟩
theorem JnS.put0 {u:Value} (h:JnS b1 b2 v K V A B D V2 A2 B2 D2 JA JB L W t21 t22 t23 t24 t25 t26 t27 t28 t29 t30 t31 t32 t33 t34 t35 t36 t37 t38 t39 t40 t41) (hu:u=v):JnS b1 b2 v K V A B D V2 A2 B2 D2 JA JB (L.setIfInBounds 0 true) W u t22 t23 t24 t25 t26 t27 t28 t29 t30 t31 t32 t33 t34 t35 t36 t37 t38 t39 t40 t41 where
 s0:=fun _=>hu
 s1:=fun e=>h.s1 (gS e)
 s2:=fun e=>h.s2 (gS e)
 s3:=fun e=>h.s3 (gS e)
 s4:=fun e=>h.s4 (gS e)
 s5:=fun e=>h.s5 (gS e)
 s6:=fun e=>h.s6 (gS e)
 s7:=fun e=>h.s7 (gS e)
 s8:=fun e=>h.s8 (gS e)
 s9:=fun e=>h.s9 (gS e)
 s10:=fun e=>h.s10 (gS e)
 s11:=fun e=>h.s11 (gS e)
 s12:=fun e=>h.s12 (gS e)
 s13:=fun e=>h.s13 (gS e)
 s14:=fun e=>h.s14 (gS e)
 s15:=fun e=>h.s15 (gS e)
 s16:=fun e=>h.s16 (gS e)
 s17:=fun e=>h.s17 (gS e)
 s18:=fun e=>h.s18 (gS e)
 s19:=fun e=>h.s19 (gS e)
theorem JnS.put1 {u:Value} (h:JnS b1 b2 v K V A B D V2 A2 B2 D2 JA JB L W t21 t22 t23 t24 t25 t26 t27 t28 t29 t30 t31 t32 t33 t34 t35 t36 t37 t38 t39 t40 t41) (hu:u= .pointer (some ⟨b1,0,none⟩)):JnS b1 b2 v K V A B D V2 A2 B2 D2 JA JB (L.setIfInBounds 1 true) W t21 u t23 t24 t25 t26 t27 t28 t29 t30 t31 t32 t33 t34 t35 t36 t37 t38 t39 t40 t41 where
 s0:=fun e=>h.s0 (gS e)
 s1:=fun _=>hu
 s2:=fun e=>h.s2 (gS e)
 s3:=fun e=>h.s3 (gS e)
 s4:=fun e=>h.s4 (gS e)
 s5:=fun e=>h.s5 (gS e)
 s6:=fun e=>h.s6 (gS e)
 s7:=fun e=>h.s7 (gS e)
 s8:=fun e=>h.s8 (gS e)
 s9:=fun e=>h.s9 (gS e)
 s10:=fun e=>h.s10 (gS e)
 s11:=fun e=>h.s11 (gS e)
 s12:=fun e=>h.s12 (gS e)
 s13:=fun e=>h.s13 (gS e)
 s14:=fun e=>h.s14 (gS e)
 s15:=fun e=>h.s15 (gS e)
 s16:=fun e=>h.s16 (gS e)
 s17:=fun e=>h.s17 (gS e)
 s18:=fun e=>h.s18 (gS e)
 s19:=fun e=>h.s19 (gS e)
theorem JnS.put2 {u:Value} (h:JnS b1 b2 v K V A B D V2 A2 B2 D2 JA JB L W t21 t22 t23 t24 t25 t26 t27 t28 t29 t30 t31 t32 t33 t34 t35 t36 t37 t38 t39 t40 t41) (hu:u= .int .i64 K):JnS b1 b2 v K V A B D V2 A2 B2 D2 JA JB (L.setIfInBounds 2 true) W t21 t22 u t24 t25 t26 t27 t28 t29 t30 t31 t32 t33 t34 t35 t36 t37 t38 t39 t40 t41 where
 s0:=fun e=>h.s0 (gS e)
 s1:=fun e=>h.s1 (gS e)
 s2:=fun _=>hu
 s3:=fun e=>h.s3 (gS e)
 s4:=fun e=>h.s4 (gS e)
 s5:=fun e=>h.s5 (gS e)
 s6:=fun e=>h.s6 (gS e)
 s7:=fun e=>h.s7 (gS e)
 s8:=fun e=>h.s8 (gS e)
 s9:=fun e=>h.s9 (gS e)
 s10:=fun e=>h.s10 (gS e)
 s11:=fun e=>h.s11 (gS e)
 s12:=fun e=>h.s12 (gS e)
 s13:=fun e=>h.s13 (gS e)
 s14:=fun e=>h.s14 (gS e)
 s15:=fun e=>h.s15 (gS e)
 s16:=fun e=>h.s16 (gS e)
 s17:=fun e=>h.s17 (gS e)
 s18:=fun e=>h.s18 (gS e)
 s19:=fun e=>h.s19 (gS e)
theorem JnS.put3 {u:Value} (h:JnS b1 b2 v K V A B D V2 A2 B2 D2 JA JB L W t21 t22 t23 t24 t25 t26 t27 t28 t29 t30 t31 t32 t33 t34 t35 t36 t37 t38 t39 t40 t41) (hu:u= .pointer (some ⟨b1,1,none⟩)):JnS b1 b2 v K V A B D V2 A2 B2 D2 JA JB (L.setIfInBounds 3 true) W t21 t22 t23 u t25 t26 t27 t28 t29 t30 t31 t32 t33 t34 t35 t36 t37 t38 t39 t40 t41 where
 s0:=fun e=>h.s0 (gS e)
 s1:=fun e=>h.s1 (gS e)
 s2:=fun e=>h.s2 (gS e)
 s3:=fun _=>hu
 s4:=fun e=>h.s4 (gS e)
 s5:=fun e=>h.s5 (gS e)
 s6:=fun e=>h.s6 (gS e)
 s7:=fun e=>h.s7 (gS e)
 s8:=fun e=>h.s8 (gS e)
 s9:=fun e=>h.s9 (gS e)
 s10:=fun e=>h.s10 (gS e)
 s11:=fun e=>h.s11 (gS e)
 s12:=fun e=>h.s12 (gS e)
 s13:=fun e=>h.s13 (gS e)
 s14:=fun e=>h.s14 (gS e)
 s15:=fun e=>h.s15 (gS e)
 s16:=fun e=>h.s16 (gS e)
 s17:=fun e=>h.s17 (gS e)
 s18:=fun e=>h.s18 (gS e)
 s19:=fun e=>h.s19 (gS e)
theorem JnS.put4 {u:Value} (h:JnS b1 b2 v K V A B D V2 A2 B2 D2 JA JB L W t21 t22 t23 t24 t25 t26 t27 t28 t29 t30 t31 t32 t33 t34 t35 t36 t37 t38 t39 t40 t41) (hu:u= .int .i64 V):JnS b1 b2 v K V A B D V2 A2 B2 D2 JA JB (L.setIfInBounds 4 true) W t21 t22 t23 t24 u t26 t27 t28 t29 t30 t31 t32 t33 t34 t35 t36 t37 t38 t39 t40 t41 where
 s0:=fun e=>h.s0 (gS e)
 s1:=fun e=>h.s1 (gS e)
 s2:=fun e=>h.s2 (gS e)
 s3:=fun e=>h.s3 (gS e)
 s4:=fun _=>hu
 s5:=fun e=>h.s5 (gS e)
 s6:=fun e=>h.s6 (gS e)
 s7:=fun e=>h.s7 (gS e)
 s8:=fun e=>h.s8 (gS e)
 s9:=fun e=>h.s9 (gS e)
 s10:=fun e=>h.s10 (gS e)
 s11:=fun e=>h.s11 (gS e)
 s12:=fun e=>h.s12 (gS e)
 s13:=fun e=>h.s13 (gS e)
 s14:=fun e=>h.s14 (gS e)
 s15:=fun e=>h.s15 (gS e)
 s16:=fun e=>h.s16 (gS e)
 s17:=fun e=>h.s17 (gS e)
 s18:=fun e=>h.s18 (gS e)
 s19:=fun e=>h.s19 (gS e)
theorem JnS.put5 {u:Value} (h:JnS b1 b2 v K V A B D V2 A2 B2 D2 JA JB L W t21 t22 t23 t24 t25 t26 t27 t28 t29 t30 t31 t32 t33 t34 t35 t36 t37 t38 t39 t40 t41) (hu:u= .pointer (some ⟨b2,1,none⟩)):JnS b1 b2 v K V A B D V2 A2 B2 D2 JA JB (L.setIfInBounds 5 true) W t21 t22 t23 t24 t25 u t27 t28 t29 t30 t31 t32 t33 t34 t35 t36 t37 t38 t39 t40 t41 where
 s0:=fun e=>h.s0 (gS e)
 s1:=fun e=>h.s1 (gS e)
 s2:=fun e=>h.s2 (gS e)
 s3:=fun e=>h.s3 (gS e)
 s4:=fun e=>h.s4 (gS e)
 s5:=fun _=>hu
 s6:=fun e=>h.s6 (gS e)
 s7:=fun e=>h.s7 (gS e)
 s8:=fun e=>h.s8 (gS e)
 s9:=fun e=>h.s9 (gS e)
 s10:=fun e=>h.s10 (gS e)
 s11:=fun e=>h.s11 (gS e)
 s12:=fun e=>h.s12 (gS e)
 s13:=fun e=>h.s13 (gS e)
 s14:=fun e=>h.s14 (gS e)
 s15:=fun e=>h.s15 (gS e)
 s16:=fun e=>h.s16 (gS e)
 s17:=fun e=>h.s17 (gS e)
 s18:=fun e=>h.s18 (gS e)
 s19:=fun e=>h.s19 (gS e)
theorem JnS.put6 {u:Value} (h:JnS b1 b2 v K V A B D V2 A2 B2 D2 JA JB L W t21 t22 t23 t24 t25 t26 t27 t28 t29 t30 t31 t32 t33 t34 t35 t36 t37 t38 t39 t40 t41) (hu:u= .int .i64 V2):JnS b1 b2 v K V A B D V2 A2 B2 D2 JA JB (L.setIfInBounds 6 true) W t21 t22 t23 t24 t25 t26 u t28 t29 t30 t31 t32 t33 t34 t35 t36 t37 t38 t39 t40 t41 where
 s0:=fun e=>h.s0 (gS e)
 s1:=fun e=>h.s1 (gS e)
 s2:=fun e=>h.s2 (gS e)
 s3:=fun e=>h.s3 (gS e)
 s4:=fun e=>h.s4 (gS e)
 s5:=fun e=>h.s5 (gS e)
 s6:=fun _=>hu
 s7:=fun e=>h.s7 (gS e)
 s8:=fun e=>h.s8 (gS e)
 s9:=fun e=>h.s9 (gS e)
 s10:=fun e=>h.s10 (gS e)
 s11:=fun e=>h.s11 (gS e)
 s12:=fun e=>h.s12 (gS e)
 s13:=fun e=>h.s13 (gS e)
 s14:=fun e=>h.s14 (gS e)
 s15:=fun e=>h.s15 (gS e)
 s16:=fun e=>h.s16 (gS e)
 s17:=fun e=>h.s17 (gS e)
 s18:=fun e=>h.s18 (gS e)
 s19:=fun e=>h.s19 (gS e)
theorem JnS.put7 {u:Value} (h:JnS b1 b2 v K V A B D V2 A2 B2 D2 JA JB L W t21 t22 t23 t24 t25 t26 t27 t28 t29 t30 t31 t32 t33 t34 t35 t36 t37 t38 t39 t40 t41) (hu:u= .int .i64 (pv V V2)):JnS b1 b2 v K V A B D V2 A2 B2 D2 JA JB (L.setIfInBounds 7 true) W t21 t22 t23 t24 t25 t26 t27 u t29 t30 t31 t32 t33 t34 t35 t36 t37 t38 t39 t40 t41 where
 s0:=fun e=>h.s0 (gS e)
 s1:=fun e=>h.s1 (gS e)
 s2:=fun e=>h.s2 (gS e)
 s3:=fun e=>h.s3 (gS e)
 s4:=fun e=>h.s4 (gS e)
 s5:=fun e=>h.s5 (gS e)
 s6:=fun e=>h.s6 (gS e)
 s7:=fun _=>hu
 s8:=fun e=>h.s8 (gS e)
 s9:=fun e=>h.s9 (gS e)
 s10:=fun e=>h.s10 (gS e)
 s11:=fun e=>h.s11 (gS e)
 s12:=fun e=>h.s12 (gS e)
 s13:=fun e=>h.s13 (gS e)
 s14:=fun e=>h.s14 (gS e)
 s15:=fun e=>h.s15 (gS e)
 s16:=fun e=>h.s16 (gS e)
 s17:=fun e=>h.s17 (gS e)
 s18:=fun e=>h.s18 (gS e)
 s19:=fun e=>h.s19 (gS e)
theorem JnS.put8 {u:Value} (h:JnS b1 b2 v K V A B D V2 A2 B2 D2 JA JB L W t21 t22 t23 t24 t25 t26 t27 t28 t29 t30 t31 t32 t33 t34 t35 t36 t37 t38 t39 t40 t41) (hu:u= .pointer (some ⟨b1,2,none⟩)):JnS b1 b2 v K V A B D V2 A2 B2 D2 JA JB (L.setIfInBounds 8 true) W t21 t22 t23 t24 t25 t26 t27 t28 u t30 t31 t32 t33 t34 t35 t36 t37 t38 t39 t40 t41 where
 s0:=fun e=>h.s0 (gS e)
 s1:=fun e=>h.s1 (gS e)
 s2:=fun e=>h.s2 (gS e)
 s3:=fun e=>h.s3 (gS e)
 s4:=fun e=>h.s4 (gS e)
 s5:=fun e=>h.s5 (gS e)
 s6:=fun e=>h.s6 (gS e)
 s7:=fun e=>h.s7 (gS e)
 s8:=fun _=>hu
 s9:=fun e=>h.s9 (gS e)
 s10:=fun e=>h.s10 (gS e)
 s11:=fun e=>h.s11 (gS e)
 s12:=fun e=>h.s12 (gS e)
 s13:=fun e=>h.s13 (gS e)
 s14:=fun e=>h.s14 (gS e)
 s15:=fun e=>h.s15 (gS e)
 s16:=fun e=>h.s16 (gS e)
 s17:=fun e=>h.s17 (gS e)
 s18:=fun e=>h.s18 (gS e)
 s19:=fun e=>h.s19 (gS e)
theorem JnS.put9 {u:Value} (h:JnS b1 b2 v K V A B D V2 A2 B2 D2 JA JB L W t21 t22 t23 t24 t25 t26 t27 t28 t29 t30 t31 t32 t33 t34 t35 t36 t37 t38 t39 t40 t41) (hu:u=tv A B):JnS b1 b2 v K V A B D V2 A2 B2 D2 JA JB (L.setIfInBounds 9 true) W t21 t22 t23 t24 t25 t26 t27 t28 t29 u t31 t32 t33 t34 t35 t36 t37 t38 t39 t40 t41 where
 s0:=fun e=>h.s0 (gS e)
 s1:=fun e=>h.s1 (gS e)
 s2:=fun e=>h.s2 (gS e)
 s3:=fun e=>h.s3 (gS e)
 s4:=fun e=>h.s4 (gS e)
 s5:=fun e=>h.s5 (gS e)
 s6:=fun e=>h.s6 (gS e)
 s7:=fun e=>h.s7 (gS e)
 s8:=fun e=>h.s8 (gS e)
 s9:=fun _=>hu
 s10:=fun e=>h.s10 (gS e)
 s11:=fun e=>h.s11 (gS e)
 s12:=fun e=>h.s12 (gS e)
 s13:=fun e=>h.s13 (gS e)
 s14:=fun e=>h.s14 (gS e)
 s15:=fun e=>h.s15 (gS e)
 s16:=fun e=>h.s16 (gS e)
 s17:=fun e=>h.s17 (gS e)
 s18:=fun e=>h.s18 (gS e)
 s19:=fun e=>h.s19 (gS e)
theorem JnS.put10 {u:Value} (h:JnS b1 b2 v K V A B D V2 A2 B2 D2 JA JB L W t21 t22 t23 t24 t25 t26 t27 t28 t29 t30 t31 t32 t33 t34 t35 t36 t37 t38 t39 t40 t41) (hu:u= .pointer (some ⟨b2,2,none⟩)):JnS b1 b2 v K V A B D V2 A2 B2 D2 JA JB (L.setIfInBounds 10 true) W t21 t22 t23 t24 t25 t26 t27 t28 t29 t30 u t32 t33 t34 t35 t36 t37 t38 t39 t40 t41 where
 s0:=fun e=>h.s0 (gS e)
 s1:=fun e=>h.s1 (gS e)
 s2:=fun e=>h.s2 (gS e)
 s3:=fun e=>h.s3 (gS e)
 s4:=fun e=>h.s4 (gS e)
 s5:=fun e=>h.s5 (gS e)
 s6:=fun e=>h.s6 (gS e)
 s7:=fun e=>h.s7 (gS e)
 s8:=fun e=>h.s8 (gS e)
 s9:=fun e=>h.s9 (gS e)
 s10:=fun _=>hu
 s11:=fun e=>h.s11 (gS e)
 s12:=fun e=>h.s12 (gS e)
 s13:=fun e=>h.s13 (gS e)
 s14:=fun e=>h.s14 (gS e)
 s15:=fun e=>h.s15 (gS e)
 s16:=fun e=>h.s16 (gS e)
 s17:=fun e=>h.s17 (gS e)
 s18:=fun e=>h.s18 (gS e)
 s19:=fun e=>h.s19 (gS e)
theorem JnS.put11 {u:Value} (h:JnS b1 b2 v K V A B D V2 A2 B2 D2 JA JB L W t21 t22 t23 t24 t25 t26 t27 t28 t29 t30 t31 t32 t33 t34 t35 t36 t37 t38 t39 t40 t41) (hu:u=tv A2 B2):JnS b1 b2 v K V A B D V2 A2 B2 D2 JA JB (L.setIfInBounds 11 true) W t21 t22 t23 t24 t25 t26 t27 t28 t29 t30 t31 u t33 t34 t35 t36 t37 t38 t39 t40 t41 where
 s0:=fun e=>h.s0 (gS e)
 s1:=fun e=>h.s1 (gS e)
 s2:=fun e=>h.s2 (gS e)
 s3:=fun e=>h.s3 (gS e)
 s4:=fun e=>h.s4 (gS e)
 s5:=fun e=>h.s5 (gS e)
 s6:=fun e=>h.s6 (gS e)
 s7:=fun e=>h.s7 (gS e)
 s8:=fun e=>h.s8 (gS e)
 s9:=fun e=>h.s9 (gS e)
 s10:=fun e=>h.s10 (gS e)
 s11:=fun _=>hu
 s12:=fun e=>h.s12 (gS e)
 s13:=fun e=>h.s13 (gS e)
 s14:=fun e=>h.s14 (gS e)
 s15:=fun e=>h.s15 (gS e)
 s16:=fun e=>h.s16 (gS e)
 s17:=fun e=>h.s17 (gS e)
 s18:=fun e=>h.s18 (gS e)
 s19:=fun e=>h.s19 (gS e)
theorem JnS.put12 {u:Value} (h:JnS b1 b2 v K V A B D V2 A2 B2 D2 JA JB L W t21 t22 t23 t24 t25 t26 t27 t28 t29 t30 t31 t32 t33 t34 t35 t36 t37 t38 t39 t40 t41) (hu:u=tv JA JB):JnS b1 b2 v K V A B D V2 A2 B2 D2 JA JB (L.setIfInBounds 12 true) W t21 t22 t23 t24 t25 t26 t27 t28 t29 t30 t31 t32 u t34 t35 t36 t37 t38 t39 t40 t41 where
 s0:=fun e=>h.s0 (gS e)
 s1:=fun e=>h.s1 (gS e)
 s2:=fun e=>h.s2 (gS e)
 s3:=fun e=>h.s3 (gS e)
 s4:=fun e=>h.s4 (gS e)
 s5:=fun e=>h.s5 (gS e)
 s6:=fun e=>h.s6 (gS e)
 s7:=fun e=>h.s7 (gS e)
 s8:=fun e=>h.s8 (gS e)
 s9:=fun e=>h.s9 (gS e)
 s10:=fun e=>h.s10 (gS e)
 s11:=fun e=>h.s11 (gS e)
 s12:=fun _=>hu
 s13:=fun e=>h.s13 (gS e)
 s14:=fun e=>h.s14 (gS e)
 s15:=fun e=>h.s15 (gS e)
 s16:=fun e=>h.s16 (gS e)
 s17:=fun e=>h.s17 (gS e)
 s18:=fun e=>h.s18 (gS e)
 s19:=fun e=>h.s19 (gS e)
theorem JnS.put13 {u:Value} (h:JnS b1 b2 v K V A B D V2 A2 B2 D2 JA JB L W t21 t22 t23 t24 t25 t26 t27 t28 t29 t30 t31 t32 t33 t34 t35 t36 t37 t38 t39 t40 t41) (hu:u= .pointer (some ⟨b1,4,none⟩)):JnS b1 b2 v K V A B D V2 A2 B2 D2 JA JB (L.setIfInBounds 13 true) W t21 t22 t23 t24 t25 t26 t27 t28 t29 t30 t31 t32 t33 u t35 t36 t37 t38 t39 t40 t41 where
 s0:=fun e=>h.s0 (gS e)
 s1:=fun e=>h.s1 (gS e)
 s2:=fun e=>h.s2 (gS e)
 s3:=fun e=>h.s3 (gS e)
 s4:=fun e=>h.s4 (gS e)
 s5:=fun e=>h.s5 (gS e)
 s6:=fun e=>h.s6 (gS e)
 s7:=fun e=>h.s7 (gS e)
 s8:=fun e=>h.s8 (gS e)
 s9:=fun e=>h.s9 (gS e)
 s10:=fun e=>h.s10 (gS e)
 s11:=fun e=>h.s11 (gS e)
 s12:=fun e=>h.s12 (gS e)
 s13:=fun _=>hu
 s14:=fun e=>h.s14 (gS e)
 s15:=fun e=>h.s15 (gS e)
 s16:=fun e=>h.s16 (gS e)
 s17:=fun e=>h.s17 (gS e)
 s18:=fun e=>h.s18 (gS e)
 s19:=fun e=>h.s19 (gS e)
theorem JnS.put14 {u:Value} (h:JnS b1 b2 v K V A B D V2 A2 B2 D2 JA JB L W t21 t22 t23 t24 t25 t26 t27 t28 t29 t30 t31 t32 t33 t34 t35 t36 t37 t38 t39 t40 t41) (hu:u= .int .i64 D):JnS b1 b2 v K V A B D V2 A2 B2 D2 JA JB (L.setIfInBounds 14 true) W t21 t22 t23 t24 t25 t26 t27 t28 t29 t30 t31 t32 t33 t34 u t36 t37 t38 t39 t40 t41 where
 s0:=fun e=>h.s0 (gS e)
 s1:=fun e=>h.s1 (gS e)
 s2:=fun e=>h.s2 (gS e)
 s3:=fun e=>h.s3 (gS e)
 s4:=fun e=>h.s4 (gS e)
 s5:=fun e=>h.s5 (gS e)
 s6:=fun e=>h.s6 (gS e)
 s7:=fun e=>h.s7 (gS e)
 s8:=fun e=>h.s8 (gS e)
 s9:=fun e=>h.s9 (gS e)
 s10:=fun e=>h.s10 (gS e)
 s11:=fun e=>h.s11 (gS e)
 s12:=fun e=>h.s12 (gS e)
 s13:=fun e=>h.s13 (gS e)
 s14:=fun _=>hu
 s15:=fun e=>h.s15 (gS e)
 s16:=fun e=>h.s16 (gS e)
 s17:=fun e=>h.s17 (gS e)
 s18:=fun e=>h.s18 (gS e)
 s19:=fun e=>h.s19 (gS e)
theorem JnS.put15 {u:Value} (h:JnS b1 b2 v K V A B D V2 A2 B2 D2 JA JB L W t21 t22 t23 t24 t25 t26 t27 t28 t29 t30 t31 t32 t33 t34 t35 t36 t37 t38 t39 t40 t41) (hu:u= .pointer (some ⟨b2,4,none⟩)):JnS b1 b2 v K V A B D V2 A2 B2 D2 JA JB (L.setIfInBounds 15 true) W t21 t22 t23 t24 t25 t26 t27 t28 t29 t30 t31 t32 t33 t34 t35 u t37 t38 t39 t40 t41 where
 s0:=fun e=>h.s0 (gS e)
 s1:=fun e=>h.s1 (gS e)
 s2:=fun e=>h.s2 (gS e)
 s3:=fun e=>h.s3 (gS e)
 s4:=fun e=>h.s4 (gS e)
 s5:=fun e=>h.s5 (gS e)
 s6:=fun e=>h.s6 (gS e)
 s7:=fun e=>h.s7 (gS e)
 s8:=fun e=>h.s8 (gS e)
 s9:=fun e=>h.s9 (gS e)
 s10:=fun e=>h.s10 (gS e)
 s11:=fun e=>h.s11 (gS e)
 s12:=fun e=>h.s12 (gS e)
 s13:=fun e=>h.s13 (gS e)
 s14:=fun e=>h.s14 (gS e)
 s15:=fun _=>hu
 s16:=fun e=>h.s16 (gS e)
 s17:=fun e=>h.s17 (gS e)
 s18:=fun e=>h.s18 (gS e)
 s19:=fun e=>h.s19 (gS e)
theorem JnS.put16 {u:Value} (h:JnS b1 b2 v K V A B D V2 A2 B2 D2 JA JB L W t21 t22 t23 t24 t25 t26 t27 t28 t29 t30 t31 t32 t33 t34 t35 t36 t37 t38 t39 t40 t41) (hu:u= .int .i64 D2):JnS b1 b2 v K V A B D V2 A2 B2 D2 JA JB (L.setIfInBounds 16 true) W t21 t22 t23 t24 t25 t26 t27 t28 t29 t30 t31 t32 t33 t34 t35 t36 u t38 t39 t40 t41 where
 s0:=fun e=>h.s0 (gS e)
 s1:=fun e=>h.s1 (gS e)
 s2:=fun e=>h.s2 (gS e)
 s3:=fun e=>h.s3 (gS e)
 s4:=fun e=>h.s4 (gS e)
 s5:=fun e=>h.s5 (gS e)
 s6:=fun e=>h.s6 (gS e)
 s7:=fun e=>h.s7 (gS e)
 s8:=fun e=>h.s8 (gS e)
 s9:=fun e=>h.s9 (gS e)
 s10:=fun e=>h.s10 (gS e)
 s11:=fun e=>h.s11 (gS e)
 s12:=fun e=>h.s12 (gS e)
 s13:=fun e=>h.s13 (gS e)
 s14:=fun e=>h.s14 (gS e)
 s15:=fun e=>h.s15 (gS e)
 s16:=fun _=>hu
 s17:=fun e=>h.s17 (gS e)
 s18:=fun e=>h.s18 (gS e)
 s19:=fun e=>h.s19 (gS e)
theorem JnS.put17 {u:Value} (h:JnS b1 b2 v K V A B D V2 A2 B2 D2 JA JB L W t21 t22 t23 t24 t25 t26 t27 t28 t29 t30 t31 t32 t33 t34 t35 t36 t37 t38 t39 t40 t41) (hu:u= .int .i64 (D*D2)):JnS b1 b2 v K V A B D V2 A2 B2 D2 JA JB (L.setIfInBounds 17 true) W t21 t22 t23 t24 t25 t26 t27 t28 t29 t30 t31 t32 t33 t34 t35 t36 t37 u t39 t40 t41 where
 s0:=fun e=>h.s0 (gS e)
 s1:=fun e=>h.s1 (gS e)
 s2:=fun e=>h.s2 (gS e)
 s3:=fun e=>h.s3 (gS e)
 s4:=fun e=>h.s4 (gS e)
 s5:=fun e=>h.s5 (gS e)
 s6:=fun e=>h.s6 (gS e)
 s7:=fun e=>h.s7 (gS e)
 s8:=fun e=>h.s8 (gS e)
 s9:=fun e=>h.s9 (gS e)
 s10:=fun e=>h.s10 (gS e)
 s11:=fun e=>h.s11 (gS e)
 s12:=fun e=>h.s12 (gS e)
 s13:=fun e=>h.s13 (gS e)
 s14:=fun e=>h.s14 (gS e)
 s15:=fun e=>h.s15 (gS e)
 s16:=fun e=>h.s16 (gS e)
 s17:=fun _=>hu
 s18:=fun e=>h.s18 (gS e)
 s19:=fun e=>h.s19 (gS e)
theorem JnS.put18 {u:Value} (h:JnS b1 b2 v K V A B D V2 A2 B2 D2 JA JB L W t21 t22 t23 t24 t25 t26 t27 t28 t29 t30 t31 t32 t33 t34 t35 t36 t37 t38 t39 t40 t41) (hu:u=rv K (pv V V2) JA JB (D*D2)):JnS b1 b2 v K V A B D V2 A2 B2 D2 JA JB (L.setIfInBounds 18 true) W t21 t22 t23 t24 t25 t26 t27 t28 t29 t30 t31 t32 t33 t34 t35 t36 t37 t38 u t40 t41 where
 s0:=fun e=>h.s0 (gS e)
 s1:=fun e=>h.s1 (gS e)
 s2:=fun e=>h.s2 (gS e)
 s3:=fun e=>h.s3 (gS e)
 s4:=fun e=>h.s4 (gS e)
 s5:=fun e=>h.s5 (gS e)
 s6:=fun e=>h.s6 (gS e)
 s7:=fun e=>h.s7 (gS e)
 s8:=fun e=>h.s8 (gS e)
 s9:=fun e=>h.s9 (gS e)
 s10:=fun e=>h.s10 (gS e)
 s11:=fun e=>h.s11 (gS e)
 s12:=fun e=>h.s12 (gS e)
 s13:=fun e=>h.s13 (gS e)
 s14:=fun e=>h.s14 (gS e)
 s15:=fun e=>h.s15 (gS e)
 s16:=fun e=>h.s16 (gS e)
 s17:=fun e=>h.s17 (gS e)
 s18:=fun _=>hu
 s19:=fun e=>h.s19 (gS e)
theorem JnS.put19 {u:Value} (h:JnS b1 b2 v K V A B D V2 A2 B2 D2 JA JB L W t21 t22 t23 t24 t25 t26 t27 t28 t29 t30 t31 t32 t33 t34 t35 t36 t37 t38 t39 t40 t41) (hu:∃ g:Nat,u= .slice (some ⟨g,0,none⟩) 1 1/\Bk W g #[.int .i64 K, .int .i64 (pv V V2), .int .i64 JA, .int .i64 JB, .int .i64 (D*D2)] 55):JnS b1 b2 v K V A B D V2 A2 B2 D2 JA JB (L.setIfInBounds 19 true) W t21 t22 t23 t24 t25 t26 t27 t28 t29 t30 t31 t32 t33 t34 t35 t36 t37 t38 t39 u t41 where
 s0:=fun e=>h.s0 (gS e)
 s1:=fun e=>h.s1 (gS e)
 s2:=fun e=>h.s2 (gS e)
 s3:=fun e=>h.s3 (gS e)
 s4:=fun e=>h.s4 (gS e)
 s5:=fun e=>h.s5 (gS e)
 s6:=fun e=>h.s6 (gS e)
 s7:=fun e=>h.s7 (gS e)
 s8:=fun e=>h.s8 (gS e)
 s9:=fun e=>h.s9 (gS e)
 s10:=fun e=>h.s10 (gS e)
 s11:=fun e=>h.s11 (gS e)
 s12:=fun e=>h.s12 (gS e)
 s13:=fun e=>h.s13 (gS e)
 s14:=fun e=>h.s14 (gS e)
 s15:=fun e=>h.s15 (gS e)
 s16:=fun e=>h.s16 (gS e)
 s17:=fun e=>h.s17 (gS e)
 s18:=fun e=>h.s18 (gS e)
 s19:=fun _=>hu
theorem getD_setF {L:Array Bool} {i j:Nat} {d:Bool} (h:i≠j):(L.setIfInBounds i true).getD j d=L.getD j d:=by
 simp only [Array.getD_eq_getD_getElem?,Array.getElem?_setIfInBounds,if_neg h]
theorem getD_tf {L:Array Bool} {j:Nat} (h:L.getD j true=false) (hj:j<L.size):L.getD j false=false:=by
 simp only [Array.getD_eq_getD_getElem?,Array.getElem?_eq_getElem hj] at h ⊢;exact h
def JnI (m b1 b2:Nat) (v:Value) (K V A B D V2 A2 B2 D2 JA JB:Int) (G1:World->Value->Prop) (G2:World->Prop) (w0:World) (L:Array Bool) (a:Act) (W:World):Prop :=
 L.size=22/\(L.getD 20 true=false->Below w0.heap.size w0 W)/\(L.getD 21 false=true->G2 W)/\∃ z0 z1 z2 z3 z4 z16 z17 z18 z19 z20 t21 t22 t23 t24 t25 t26 t27 t28 t29 t30 t31 t32 t33 t34 t35 t36 t37 t38 t39 t40 t41 z42:Value,
  a={ tmps:=#[z0,z1,z2,z3,z4, .pointer (some ⟨m,0,none⟩), .pointer (some ⟨b1,0,none⟩), .pointer (some ⟨b2,0,none⟩),z16,z17,z18,z19,z20,t21,t22,t23,t24,t25,t26,t27,t28,t29,t30,t31,t32,t33,t34,t35,t36,t37,t38,t39,t40,t41,z42],defers:=[] }/\(L.getD 20 false=true->L.getD 21 true=false->G1 W t41)/\(L.getD 20 true=false->JnS b1 b2 v K V A B D V2 A2 B2 D2 JA JB L W t21 t22 t23 t24 t25 t26 t27 t28 t29 t30 t31 t32 t33 t34 t35 t36 t37 t38 t39 t40 t41)
theorem jnI_next {m i:Nat} {G1:World->Value->Prop} {G2:World->Prop} {w0:World} {z0 z1 z2 z3 z4 z16 z17 z18 z19 z20 z42:Value} (hi:i<20) (hLs:L.size=22) (h20:L.getD 20 true=false) (h21:L.getD 21 true=false) (hb:Below w0.heap.size w0 W) (S:JnS b1 b2 v K V A B D V2 A2 B2 D2 JA JB (L.setIfInBounds i true) W t21 t22 t23 t24 t25 t26 t27 t28 t29 t30 t31 t32 t33 t34 t35 t36 t37 t38 t39 t40 t41) :
  JnI m b1 b2 v K V A B D V2 A2 B2 D2 JA JB G1 G2 w0 (L.setIfInBounds i true) { tmps:=#[z0,z1,z2,z3,z4, .pointer (some ⟨m,0,none⟩), .pointer (some ⟨b1,0,none⟩), .pointer (some ⟨b2,0,none⟩),z16,z17,z18,z19,z20,t21,t22,t23,t24,t25,t26,t27,t28,t29,t30,t31,t32,t33,t34,t35,t36,t37,t38,t39,t40,t41,z42],defers:=[] } W :=
 ⟨by simp [hLs],fun _=>hb,fun e=>by rw [getD_setF (by omega)] at e;exact absurd e (by simp [getD_tf h21 (by omega)]),_,_,_,_,_,_,_,_,_,_,_,_,_,_,_,_,_,_,_,_,_,_,_,_,_,_,_,_,_,_,_,_,rfl,fun e=>by rw [getD_setF (by omega)] at e;exact absurd e (by simp [getD_tf h20 (by omega)]),fun _=>S⟩
theorem jnI_app {m:Nat} {G1:World->Value->Prop} {G2:World->Prop} {w0:World} {z0 z1 z2 z3 z4 z16 z17 z18 z19 z20 t21 t22 t23 t24 t25 t26 t27 t28 t29 t30 t31 t32 t33 t34 t35 t36 t37 t38 t39 t40 z42:Value} {u:Value} (hLs:L.size=22) (h21:L.getD 21 true=false) (hu:G1 W u) :
  JnI m b1 b2 v K V A B D V2 A2 B2 D2 JA JB G1 G2 w0 (L.setIfInBounds 20 true) { tmps:=#[z0,z1,z2,z3,z4, .pointer (some ⟨m,0,none⟩), .pointer (some ⟨b1,0,none⟩), .pointer (some ⟨b2,0,none⟩),z16,z17,z18,z19,z20,t21,t22,t23,t24,t25,t26,t27,t28,t29,t30,t31,t32,t33,t34,t35,t36,t37,t38,t39,t40,u,z42],defers:=[] } W :=
 ⟨by simp [hLs],fun e=>by simp [hLs] at e,fun e=>by rw [getD_setF (by omega)] at e;exact absurd e (by simp [getD_tf h21 (by omega)]),_,_,_,_,_,_,_,_,_,_,_,_,_,_,_,_,_,_,_,_,_,_,_,_,_,_,_,_,_,_,_,_,rfl,fun _ _=>hu,fun e=>by simp [hLs] at e⟩
theorem jnI_put {m:Nat} {G1:World->Value->Prop} {G2:World->Prop} {w0:World} {z0 z1 z2 z3 z4 z16 z17 z18 z19 z20 t21 t22 t23 t24 t25 t26 t27 t28 t29 t30 t31 t32 t33 t34 t35 t36 t37 t38 t39 t40 t41 z42:Value} (hLs:L.size=22) (h20:L.getD 20 false=true) (hu:G2 W) :
  JnI m b1 b2 v K V A B D V2 A2 B2 D2 JA JB G1 G2 w0 (L.setIfInBounds 21 true) { tmps:=#[z0,z1,z2,z3,z4, .pointer (some ⟨m,0,none⟩), .pointer (some ⟨b1,0,none⟩), .pointer (some ⟨b2,0,none⟩),z16,z17,z18,z19,z20,t21,t22,t23,t24,t25,t26,t27,t28,t29,t30,t31,t32,t33,t34,t35,t36,t37,t38,t39,t40,t41,z42],defers:=[] } W :=
 ⟨by simp [hLs],fun e=>(by rw [getD_setF (by omega)] at e;rw [getD_tf e (by omega)] at h20;cases h20),fun _=>hu,_,_,_,_,_,_,_,_,_,_,_,_,_,_,_,_,_,_,_,_,_,_,_,_,_,_,_,_,_,_,_,_,rfl,fun _ e=>by simp [hLs] at e,fun e=>(by rw [getD_setF (by omega)] at e;rw [getD_tf e (by omega)] at h20;cases h20)⟩
theorem sFz {L:Array Bool} {i j:Nat} (hi:L.getD i true=false) (hil:i<L.size) (hjl:j<L.size) (h:L.getD j false=true->L.getD i false=true):L.getD j true=false:=by
 cases e:L.getD j true
 ·rfl
 ·exfalso
  have h1:L.getD j false=true:=by
   simp only [Array.getD_eq_getD_getElem?,Array.getElem?_eq_getElem hjl] at e ⊢;exact e
  have h2:=h h1;rw [getD_tf hi hil] at h2;cases h2
theorem round_fin {B N0 m:Nat} {w Wb W1 W:World} {v u:Value} {l l':List Rw} (hm:Bk Wb m #[v] 28) (hmN:m<N0) (hBm:B<=m) (hown:OwnR Wb N0 v l) (hb1:Below Wb.heap.size Wb W1) (hg:W1.grownBy W v.ownBlock) (hu:OwnR W N0 u l')
  (hq:u.ownBlock=v.ownBlock\/∃ q,u.ownBlock=some q/\W1.heap.size<=q/\q<W.heap.size) (hw:Below B w Wb) (hN:N0<=Wb.heap.size) :
  W.frozen? ⟨m,0,none⟩=false/\W.cell? ⟨m,0,none⟩=some v/\KeepsFrom N0 Wb (W.setCell ⟨m,0,none⟩ u)/\KpA m Wb (W.setCell ⟨m,0,none⟩ u)/\Bk (W.setCell ⟨m,0,none⟩ u) m #[u] 28/\OwnR (W.setCell ⟨m,0,none⟩ u) N0 u l'/\Below B w (W.setCell ⟨m,0,none⟩ u)/\N0<=(W.setCell ⟨m,0,none⟩ u).heap.size:=by
 have hv:v.ownBlock≠some m:=fun e=>by have:=oB hown m e;omega
 have hm1:=hm.keep hb1;have hm2:Bk W m #[v] 28:=by unfold Bk;rw [hg.block m hm1.lt (fun e=>hv e.symm)];exact hm1
 have hz:(W.setCell ⟨m,0,none⟩ u).heap.size=W.heap.size:=by simp
 have hs1:=hb1.size;have hs2:=hg.size;have hown1:=oK hown hb1;refine ⟨?_,hm2.cell (i:=0) (v:=v) rfl,⟨by omega,fun k o hk ho hc=>?_⟩,(KpA.below hb1 hm.lt).trans (KpA.grow hm1 hg hv hq),by simpa using hm2.set 0 u,?_,?_,by omega⟩
 ·unfold Bk at hm2;simp [World.frozen?,hm2]
 ·have hlt:=(Array.getElem?_eq_some_iff.1 ho).1;rw [Below.heap_setCell _ _ _ _ (show k≠(⟨m,0,none⟩:Addr).block from by show k≠m;omega),hg.block k (by omega) (fun e=>?_),hb1.block k hlt]
  ·exact ho
  ·obtain ⟨_,⟨rfl,_⟩|⟨g,cp,cur,rfl,_,hh,_⟩⟩:=hown
   ·simp [Value.ownBlock] at e
   ·simp [Value.ownBlock] at e;subst e;rw [hh] at ho;cases ho;cases hc
 ·refine oAz hu fun q e=>Below.heap_setCell _ _ _ _ (show q≠m from ?_);have:=oB hu q e;omega
 ·refine Below.setCell ?_ hBm _;exact Below.grew (hw.trans (hb1.mono (by have:=hm.lt;omega))) hg (by have:=hm1.lt;omega) (fun q e=>by have:=oB hown q e;omega)
end Go.Proofs.YtbdpcngcbnoioaaGreatDoor
namespace Go.Proofs.YtbdpcngcbnoioaaGreatDoor
open Go.RowKit Go.Shelf
attribute [local go_sem] Oper.semAt_some
theorem bStep2 {B:Nat} {w W W':World} (h:Below B w W) (hb:Below W.heap.size W W') (hB:B<=W.heap.size:=by omega):Below B w W':=h.trans (hb.mono hB)
theorem ownR_cellsJ {w:World} {B:Nat} {v:Value} {l:List Rw} (h:OwnR w B v l) {q:Nat} (e:v.ownBlock=some q):∃ c:Array Value,Bk w q c 55:=by
 rcases ownK_open h rowC_len with ⟨rfl,_⟩|⟨g,cap,c,rfl,_,hb,_⟩
 ·cases e
 ·have:g=q:=by simpa [Value.ownBlock] using e
  subst this;exact ⟨c,hb⟩
theorem pairRows_in (a b:Option Addr) (cap cap':Nat) (s t:List Rw) (w:World) (h:Rs w (.slice a s.length cap) s) (h':Rs w (.slice b t.length cap') t) (hk:rokB s=true) (hk':rokB t=true) :
  CallsIn Fence.wide 4 Tryz.prog 173 #[.slice a s.length cap, .slice b t.length cap'] w fun e w'=>∃ o:Value,e= .returned o/\OwnR w' w.heap.size o (pairR s t)/\Below w.heap.size w w':=by
 have HH:Hid (Rs w (.slice a s.length cap) s):=h;have HH':Hid (Rs w (.slice b t.length cap') t):=h';clear h h';have hs2:w.heap.size<=w.heap.size:=Nat.le_refl _;refine callsIn_of_wp_marks Tryz.func173 rfl trivial ?_ rfl;simp only [Tryz.ntmps173,List.size_toArray,List.length_cons,List.length_nil,Nat.reduceAdd,Nat.reduceSub,Array.replicate_succ,Array.replicate_zero,List.push_toArray,List.append_toArray,List.nil_append,List.cons_append]
 gi_wp2
 refine ⟨trivial,?_⟩;refine CallsIn.mono (callsIn_wide.2 (pairs_any _ _ _ _ _ _ _)) ?_;rintro e W0 ⟨rfl,hW0⟩;have bm0:Bk W0 w.heap.size #[.slice none 0 0] 28:=by
  rw [hW0];exact ((Bk.new (w:=w) _ _ rfl).alloc _).alloc _
 have b10:Bk W0 (w.heap.size+1) #[.slice a s.length cap] 28:=by
  rw [hW0];exact (Bk.new (w:=w.alloc (.cells #[.slice none 0 0] 28)) _ _ (by simp)).alloc _
 have b20:Bk W0 (w.heap.size+1+1) #[.slice b t.length cap'] 28:=by
  rw [hW0];exact Bk.new (w:=(w.alloc (.cells #[.slice none 0 0] 28)).alloc _) _ _ (by simp)
 have hsz:W0.heap.size=w.heap.size+1+1+1:=by rw [hW0];simp
 have hBW:Below w.heap.size w W0:=by
  rw [hW0];exact bAz (bAz (bAz (Below.refl _ _) _) _) _
 clear hW0;have hB0:Below w.heap.size w W0:=hBW;have ha0:arrOf W0 w.heap.size=none:=by unfold arrOf;rw [bm0.cell (i:=0) (v:= .slice none 0 0) rfl];rfl
 gi_wp2
 clear hBW;have HSZ:Hid (W0.heap.size=w.heap.size+1+1+1):=hsz;refine wpIn_rangeFunc_ownH (n:=4) (w0:=W0) rfl (by omega) (gf:=244) (lb:=#[.pointer (some ⟨w.heap.size+1,0,none⟩), .pointer (some ⟨w.heap.size+1+1,0,none⟩)]) rfl trivial (enters_of Tryz.func244 (by kernel_rfl) rfl)
  (pairs_stops (w.heap.size+1) (w.heap.size+1+1) w.heap.size a b cap cap' s t w W0 hk hk' HH.out HH'.out hs2 (by omega) (Kc.of_below hB0) b10 b20 (by omega) ha0)
  (fun h k=>h.trans k) (fun W lq o o' hN ho hc _=>KpA.put W lq o o' (by omega) ho hc) (Below.refl _ _) (fun _=>rfl)
  (fun pre W=>(∃ v:Value,Bk W w.heap.size #[v] 28/\OwnR W W0.heap.size v (pre.map fun z=>jnP z.1))/\Below w.heap.size w W/\W0.heap.size<=W.heap.size)
  (fun _ _ _=>False)
  (fun pre A B row hs hg hr=>by
   obtain ⟨⟨v,h1,h2⟩,h5,h6⟩:=hs;refine ⟨⟨v,Bk.grew h1 hg (fun r e=>by have:=(hr r e).1;omega),oAz h2 fun q e=>hg.block q (oT h2 q e) (fun e'=>?_)⟩,Below.grew h5 hg (by omega) (fun r e=>by have:=(hr r e).1;omega),Nat.le_trans h6 hg.size⟩;obtain ⟨_,o,h7,h8⟩:=hr q e'.symm;obtain ⟨_,⟨rfl,_⟩|⟨g,cp,cur,rfl,_,hh,_⟩⟩:=h2
   ·simp [Value.ownBlock] at e
   ·simp [Value.ownBlock] at e;subst e;rw [hh] at h7;cases h7;cases h8)
  (fun _ _ _ _ _ hs _ _=>hs)
  ⟨⟨_,bm0,oN _ _ _ _ _⟩,hB0,Nat.le_refl _⟩
  (fun z a' W=>∃ c1 c2:Nat,W0.heap.size<=c1/\W0.heap.size<=c2/\Bk W c1 #[.int .i64 z.1.1.1.1.1, .int .i64 z.1.1.1.1.2, .int .i64 z.1.1.1.2.1, .int .i64 z.1.1.1.2.2, .int .i64 z.1.1.2] 55/\Bk W c2 #[.int .i64 z.1.2.1.1.1, .int .i64 z.1.2.1.1.2, .int .i64 z.1.2.1.2.1, .int .i64 z.1.2.1.2.2, .int .i64 z.1.2.2] 55/\arrOf W w.heap.size≠some c1/\arrOf W w.heap.size≠some c2 /\
   a'={ tmps:=#[.slice a s.length cap, .slice b t.length cap',undef,undef, .slice none 0 0, .pointer (some ⟨w.heap.size,0,none⟩), .pointer (some ⟨c1,0,none⟩), .pointer (some ⟨c2,0,none⟩), .slice a s.length cap, .slice b t.length cap',
    .func (.func 244) #[] #[.pointer (some ⟨w.heap.size+1,0,none⟩), .pointer (some ⟨w.heap.size+1+1,0,none⟩)],rvR z.1.1,rvR z.1.2,undef,undef,undef,undef,undef,undef,undef,undef,undef,undef,undef,undef,undef,undef,undef,undef,undef,undef,undef,undef,undef,undef],defers:=[] })
  (fun z a' _ A B row hs hg hr=>by
   obtain ⟨c1,c2,h1,h2,h3,h4,h5,h6,h7⟩:=hs;have hne:∀ {k:Nat} {c:Array Value} {t:TypeId},Bk A k c t->∀ r,row=some r->k≠r:=fun hb r e e'=>by
    obtain ⟨_,o,h8,h9⟩:=hr r e;subst e';unfold Bk at hb;rw [hb] at h8;cases h8;cases h9
   have harr:arrOf B w.heap.size=arrOf A w.heap.size:=by
    by_cases hlt:w.heap.size<A.heap.size
    ·exact aB (hg.block w.heap.size hlt (fun e=>by have:=(hr w.heap.size e.symm).1;omega))
    ·have:=h3.lt;omega
   exact ⟨c1,c2,h1,h2,Bk.grew h3 hg (hne h3),Bk.grew h4 hg (hne h4),by rw [harr];exact h5,by rw [harr];exact h6,h7⟩)
  ?assign ?body ?done ?stop
 case assign =>
  rintro lq pre z W K ⟨⟨v,h1,h2⟩,h5,h6⟩ hK;have hlt2:=h1.lt;have hbA:Below W.heap.size W ((W.alloc (.cells #[.int .i64 z.1.1.1.1.1, .int .i64 z.1.1.1.1.2, .int .i64 z.1.1.1.2.1, .int .i64 z.1.1.1.2.2, .int .i64 z.1.1.2] 55)).alloc (.cells #[.int .i64 z.1.2.1.1.1, .int .i64 z.1.2.1.1.2, .int .i64 z.1.2.1.2.1, .int .i64 z.1.2.1.2.2, .int .i64 z.1.2.2] 55)):=bAz (bAz (Below.refl _ _) _) _;have harr:arrOf W w.heap.size=v.ownBlock:=by unfold arrOf;rw [h1.cell (i:=0) (v:=v) rfl];rfl
  have hq:∀ q,v.ownBlock=some q->q<W.heap.size:=fun q e=>oT h2 q e
  gi_wp2
  refine hK _ _ (((KeepsOthers.alloc _ _).trans (KeepsOthers.alloc _ _)).from _) (KpA.below hbA hlt2) ⟨⟨v,h1.keep hbA,oK h2 hbA⟩,bStep2 h5 hbA,by simp;omega⟩
   ⟨W.heap.size,W.heap.size+1,h6,by omega,(Bk.new _ _ rfl).alloc _,Bk.new _ _ (by simp),?_,?_,rfl⟩
  ·rw [aB (hbA.block w.heap.size hlt2),harr];intro e;have:=hq _ e;omega
  ·rw [aB (hbA.block w.heap.size hlt2),harr];intro e;have:=hq _ e;omega
 case body =>
  rintro lq pre z a' W hlq-⟨⟨v,h1,h2⟩,h5,h6⟩ ⟨c1,c2,hc1,hc2,k1,k2,hn1,hn2,rfl⟩ hlt;obtain ⟨⟨⟨⟨⟨K,V⟩,⟨A,B⟩⟩,D⟩,⟨⟨⟨K2,V2⟩,⟨A2,B2⟩⟩,D2⟩⟩,hz1,hz2,hKK⟩:=z;simp only at hKK;subst hKK;obtain ⟨-,-,i3,i4⟩:=rw_k hz1;obtain ⟨-,-,j3,j4⟩:=rw_k hz2;simp only at i3 i4 j3 j4 k1 k2;have hmu:=prod_row (rw_diff hz1) (rw_diff hz2);simp only at hmu;have iw:IntKind.i64.wrap (D*D2)=D*D2:=by rw [IntKind.wrap_i64]<;>omega
  have HJ:Hid (∀ W,Calls Tryz.prog 98 #[tv A B,tv A2 B2] W fun e w'=>e= .returned (tv (jnA A B A2 B2) (jnB A B A2 B2))/\Below W.heap.size W w'):=fun W=>implJoin_any A B A2 B2 W;have hpl:(pre.map fun z=>jnP z.1).length<=160000:=by rw [List.length_map];omega
  obtain ⟨l',hl'⟩:∃ l',l'=((pre++[⟨((((K,V),(A,B)),D),(((K,V2),(A2,B2)),D2)),hz1,hz2,rfl⟩]:List XP).map fun z=>jnP z.1):=⟨_,rfl⟩;have hl2:l'=(pre.map fun z=>jnP z.1)++[(((K,pv V V2),(jnA A B A2 B2,jnB A B A2 B2)),D*D2)]:=by rw [hl',List.map_append];rfl
  have HL':Hid (l'=((pre++[⟨((((K,V),(A,B)),D),(((K,V2),(A2,B2)),D2)),hz1,hz2,rfl⟩]:List XP).map fun z=>jnP z.1)):=hl';clear hl';generalize (pre.map fun z=>jnP z.1)=l at *;generalize jnA A B A2 B2=JA at *;generalize jnB A B A2 B2=JB at *;have HAP:Hid (∀ (W1:World) (g:Nat),Below W.heap.size W W1->Bk W1 g #[.int .i64 K, .int .i64 (pv V V2), .int .i64 JA, .int .i64 JB, .int .i64 (D*D2)] 55->∃ (u:Value) (W':World),(Builtin.append_ #[28,28] 28 #[v, .slice (some ⟨g,0,none⟩) 1 1]).run Tryz.prog W1= .ok u W'/\(∃ (q:Addr) (n c:Nat),u= .slice (some q) n c)/\W'.frozen? ⟨w.heap.size,0,none⟩=false/\W'.cell? ⟨w.heap.size,0,none⟩=some v/\KeepsFrom W0.heap.size W (W'.setCell ⟨w.heap.size,0,none⟩ u)/\KpA w.heap.size W (W'.setCell ⟨w.heap.size,0,none⟩ u)/\((∃ v:Value,Bk (W'.setCell ⟨w.heap.size,0,none⟩ u) w.heap.size #[v] 28/\OwnR (W'.setCell ⟨w.heap.size,0,none⟩ u) W0.heap.size v l')/\Below w.heap.size w (W'.setCell ⟨w.heap.size,0,none⟩ u)/\W0.heap.size<=(W'.setCell ⟨w.heap.size,0,none⟩ u).heap.size)):=fun W1 g hb hg=>by
   have own1:=oK h2 hb;obtain ⟨gq,capq,W',e1,e2,e3,e4,e5⟩:=appR_run 28 own1 g K (pv V V2) JA JB (D*D2) hg (by omega) (by have:=hb.size;omega);rw [<- hl2] at e2;obtain ⟨f1,f2,f3,f4,f5,f6,f7,f8⟩:=round_fin h1 (by omega) hs2 h2 hb e3 e2 (e4.elim (fun e=> .inl e.symm) (fun e=> .inr ⟨gq,rfl,by omega,e5⟩)) h5 h6;exact ⟨_,W',e1,⟨_,_,_,rfl⟩,f1,f2,f3,f4,⟨_,f5,f6⟩,f7,f8⟩
  have HM:Hid (Bk W w.heap.size #[v] 28):=h1;have H1:Hid (Bk W c1 #[.int .i64 K, .int .i64 V, .int .i64 A, .int .i64 B, .int .i64 D] 55):=k1;have H2:Hid (Bk W c2 #[.int .i64 K, .int .i64 V2, .int .i64 A2, .int .i64 B2, .int .i64 D2] 55):=k2;clear h1 h2 h5 h6 k1 k2 hn1 hn2 hl2 hpl hmu;obtain ⟨G1,hG1⟩:∃ G1:World->Value->Prop,G1=fun W' u=>(∃ (q:Addr) (n c:Nat),u= .slice (some q) n c)/\W'.frozen? ⟨w.heap.size,0,none⟩=false/\W'.cell? ⟨w.heap.size,0,none⟩=some v/\KeepsFrom W0.heap.size W (W'.setCell ⟨w.heap.size,0,none⟩ u)/\KpA w.heap.size W (W'.setCell ⟨w.heap.size,0,none⟩ u)/\((∃ v:Value,Bk (W'.setCell ⟨w.heap.size,0,none⟩ u) w.heap.size #[v] 28/\OwnR (W'.setCell ⟨w.heap.size,0,none⟩ u) W0.heap.size v l')/\Below w.heap.size w (W'.setCell ⟨w.heap.size,0,none⟩ u)/\W0.heap.size<=(W'.setCell ⟨w.heap.size,0,none⟩ u).heap.size):=⟨_,rfl⟩;obtain ⟨G2,hG2⟩:∃ G2:World->Prop,G2=fun W'=>KeepsFrom W0.heap.size W W'/\KpA w.heap.size W W'/\((∃ v:Value,Bk W' w.heap.size #[v] 28/\OwnR W' W0.heap.size v l')/\Below w.heap.size w W'/\W0.heap.size<=W'.heap.size):=⟨_,rfl⟩
  gi_wp2
  refine wpIn_region_inv2 (by kernel_rfl) (JnI w.heap.size c1 c2 v K V A B D V2 A2 B2 D2 JA JB G1 G2 W) ?hg ?hs ?h0 ?hstep ?hend
  case hg =>
   intro i op ho;have hi:i<22:=(Array.getElem?_eq_some_iff.1 ho).1;obtain rfl|rfl|rfl|rfl|rfl|rfl|rfl|rfl|rfl|rfl|rfl|rfl|rfl|rfl|rfl|rfl|rfl|rfl|rfl|rfl|rfl|rfl:i=0\/i=1\/i=2\/i=3\/i=4\/i=5\/i=6\/i=7\/i=8\/i=9\/i=10\/i=11\/i=12\/i=13\/i=14\/i=15\/i=16\/i=17\/i=18\/i=19\/i=20\/i=21:=by omega
   all_goals cases ho;rfl
  case hs=>intro L a W hI;exact hI.1
  case h0 =>
   refine ⟨by simp,fun _=>(Below.refl _ _).drew,fun e=>by simp at e,_,_,_,_,_,_,_,_,_,_,_,_,_,_,_,_,_,_,_,_,_,_,_,_,_,_,_,_,_,_,_,_,rfl,fun e=>by simp at e,fun _=>?_⟩;constructor<;>(intro e;simp at e)
  case hend =>
   rintro L a W' ⟨hLs,-,hF,-⟩ hr;have hall:∀ j,j<22->L.getD j false=true:=by
    refine all_listed2 (by simpa using hLs) ?_ hr;intro i op ho;have hi:i<22:=(Array.getElem?_eq_some_iff.1 ho).1;obtain rfl|rfl|rfl|rfl|rfl|rfl|rfl|rfl|rfl|rfl|rfl|rfl|rfl|rfl|rfl|rfl|rfl|rfl|rfl|rfl|rfl|rfl:i=0\/i=1\/i=2\/i=3\/i=4\/i=5\/i=6\/i=7\/i=8\/i=9\/i=10\/i=11\/i=12\/i=13\/i=14\/i=15\/i=16\/i=17\/i=18\/i=19\/i=20\/i=21:=by omega
    all_goals cases ho
    all_goals (first|(simp;done)|(simp [Region.binds];done)|decide)
   have hq:=hF (hall 21 (by omega));rw [hG2,HL'.out] at hq;clear hF hall hr
   gi_wp2
   exact hq
  case hstep =>
   rintro L a W' i op hdc ⟨hLs,hB,hF,z0,z1,z2,z3,z4,z16,z17,z18,z19,z20,t21,t22,t23,t24,t25,t26,t27,t28,t29,t30,t31,t32,t33,t34,t35,t36,t37,t38,t39,t40,t41,z42,rfl,hQ,hS⟩ hi ho;have hcl:L.getD 20 false=true->∀ j,j<20->L.getD j false=true:=by
    intro l20;have l0:=hdc 20 _ rfl l20 ⟨0, .data⟩ (by simp) rfl;have l19:=hdc 20 _ rfl l20 ⟨19, .data⟩ (by simp) rfl;have l18:=hdc 19 _ rfl l19 ⟨18, .data⟩ (by simp) rfl;have l2:=hdc 18 _ rfl l18 ⟨2, .data⟩ (by simp) rfl;have l7:=hdc 18 _ rfl l18 ⟨7, .data⟩ (by simp) rfl;have l12:=hdc 18 _ rfl l18 ⟨12, .data⟩ (by simp) rfl;have l17:=hdc 18 _ rfl l18 ⟨17, .data⟩ (by simp) rfl;have l1:=hdc 2 _ rfl l2 ⟨1, .data⟩ (by simp) rfl;have l4:=hdc 7 _ rfl l7 ⟨4, .data⟩ (by simp) rfl;have l6:=hdc 7 _ rfl l7 ⟨6, .data⟩ (by simp) rfl;have l3:=hdc 4 _ rfl l4 ⟨3, .data⟩ (by simp) rfl;have l5:=hdc 6 _ rfl l6 ⟨5, .data⟩ (by simp) rfl;have l9:=hdc 12 _ rfl l12 ⟨9, .data⟩ (by simp) rfl;have l11:=hdc 12 _ rfl l12 ⟨11, .data⟩ (by simp) rfl;have l8:=hdc 9 _ rfl l9 ⟨8, .data⟩ (by simp) rfl;have l10:=hdc 11 _ rfl l11 ⟨10, .data⟩ (by simp) rfl;have l14:=hdc 17 _ rfl l17 ⟨14, .data⟩ (by simp) rfl;have l16:=hdc 17 _ rfl l17 ⟨16, .data⟩ (by simp) rfl;have l13:=hdc 14 _ rfl l14 ⟨13, .data⟩ (by simp) rfl;have l15:=hdc 16 _ rfl l16 ⟨15, .data⟩ (by simp) rfl;intro j hj;obtain rfl|rfl|rfl|rfl|rfl|rfl|rfl|rfl|rfl|rfl|rfl|rfl|rfl|rfl|rfl|rfl|rfl|rfl|rfl|rfl:j=0\/j=1\/j=2\/j=3\/j=4\/j=5\/j=6\/j=7\/j=8\/j=9\/j=10\/j=11\/j=12\/j=13\/j=14\/j=15\/j=16\/j=17\/j=18\/j=19:=by omega
    all_goals assumption
   have hcl2:L.getD 21 false=true->L.getD 20 false=true:=fun l21=>hdc 21 _ rfl l21 ⟨20, .data⟩ (by simp) rfl;clear hdc;obtain ⟨hun,o',ho',hall⟩:=mem_ready.1 hi;rw [ho] at ho';cases ho';have hi22:i<22:=(Array.getElem?_eq_some_iff.1 ho).1;clear hi;generalize hK:(fun a' w'=>JnI w.heap.size c1 c2 v K V A B D V2 A2 B2 D2 JA JB G1 G2 W (L.setIfInBounds i true) a' w')=K';obtain rfl|rfl|rfl|rfl|rfl|rfl|rfl|rfl|rfl|rfl|rfl|rfl|rfl|rfl|rfl|rfl|rfl|rfl|rfl|rfl|rfl|rfl:i=0\/i=1\/i=2\/i=3\/i=4\/i=5\/i=6\/i=7\/i=8\/i=9\/i=10\/i=11\/i=12\/i=13\/i=14\/i=15\/i=16\/i=17\/i=18\/i=19\/i=20\/i=21:=by omega
   ·cases ho;have h20:L.getD 20 true=false:=sFz hun (by omega) (by omega) (fun e=>hcl e _ (by omega));have h21:L.getD 21 true=false:=sFz h20 (by omega) (by omega) hcl2;have hb:=hB h20;have S:=hS h20;have c0:=(HM.out.keep hb).cell (i:=0) (v:=v) rfl;go_simp;subst hK;exact jnI_next (by omega) hLs h20 h21 hb (S.put0 rfl)
   ·cases ho;have h20:L.getD 20 true=false:=sFz hun (by omega) (by omega) (fun e=>hcl e _ (by omega));have h21:L.getD 21 true=false:=sFz h20 (by omega) (by omega) hcl2;have hb:=hB h20;have S:=hS h20;go_simp;subst hK;exact jnI_next (by omega) hLs h20 h21 hb (S.put1 rfl)
   ·cases ho;have h20:L.getD 20 true=false:=sFz hun (by omega) (by omega) (fun e=>hcl e _ (by omega));have h21:L.getD 21 true=false:=sFz h20 (by omega) (by omega) hcl2;have hb:=hB h20;have S:=hS h20;have e1:=S.s1 (hall ⟨1, .data⟩ (by simp) rfl);subst e1;obtain ⟨x0,x1,x2,x3,x4⟩:=(H1.out.keep hb).five;obtain ⟨y0,y1,y2,y3,y4⟩:=(H2.out.keep hb).five;go_simp;subst hK;exact jnI_next (by omega) hLs h20 h21 hb (S.put2 rfl)
   ·cases ho;have h20:L.getD 20 true=false:=sFz hun (by omega) (by omega) (fun e=>hcl e _ (by omega));have h21:L.getD 21 true=false:=sFz h20 (by omega) (by omega) hcl2;have hb:=hB h20;have S:=hS h20;go_simp;subst hK;exact jnI_next (by omega) hLs h20 h21 hb (S.put3 rfl)
   ·cases ho;have h20:L.getD 20 true=false:=sFz hun (by omega) (by omega) (fun e=>hcl e _ (by omega));have h21:L.getD 21 true=false:=sFz h20 (by omega) (by omega) hcl2;have hb:=hB h20;have S:=hS h20;have e3:=S.s3 (hall ⟨3, .data⟩ (by simp) rfl);subst e3;obtain ⟨x0,x1,x2,x3,x4⟩:=(H1.out.keep hb).five;obtain ⟨y0,y1,y2,y3,y4⟩:=(H2.out.keep hb).five;go_simp;subst hK;exact jnI_next (by omega) hLs h20 h21 hb (S.put4 rfl)
   ·cases ho;have h20:L.getD 20 true=false:=sFz hun (by omega) (by omega) (fun e=>hcl e _ (by omega));have h21:L.getD 21 true=false:=sFz h20 (by omega) (by omega) hcl2;have hb:=hB h20;have S:=hS h20;go_simp;subst hK;exact jnI_next (by omega) hLs h20 h21 hb (S.put5 rfl)
   ·cases ho;have h20:L.getD 20 true=false:=sFz hun (by omega) (by omega) (fun e=>hcl e _ (by omega));have h21:L.getD 21 true=false:=sFz h20 (by omega) (by omega) hcl2;have hb:=hB h20;have S:=hS h20;have e5:=S.s5 (hall ⟨5, .data⟩ (by simp) rfl);subst e5;obtain ⟨x0,x1,x2,x3,x4⟩:=(H1.out.keep hb).five;obtain ⟨y0,y1,y2,y3,y4⟩:=(H2.out.keep hb).five;go_simp;subst hK;exact jnI_next (by omega) hLs h20 h21 hb (S.put6 rfl)
   ·cases ho;have h20:L.getD 20 true=false:=sFz hun (by omega) (by omega) (fun e=>hcl e _ (by omega));have h21:L.getD 21 true=false:=sFz h20 (by omega) (by omega) hcl2;have hb:=hB h20;have S:=hS h20;have e4:=S.s4 (hall ⟨4, .data⟩ (by simp) rfl);have e6:=S.s6 (hall ⟨6, .data⟩ (by simp) rfl);subst e4 e6;go_simp;refine ⟨trivial,?_⟩;refine CallsIn.inRound lq (CallsIn.mono (callsIn_wide.2 (pairVal_any i3 i4 j3 j4 _)) ?_);rintro e W1 ⟨rfl,hb1⟩;subst hK;exact jnI_next (by omega) hLs h20 h21 (bSz hb hb1) ((S.keep hb1).put7 rfl)
   ·cases ho;have h20:L.getD 20 true=false:=sFz hun (by omega) (by omega) (fun e=>hcl e _ (by omega));have h21:L.getD 21 true=false:=sFz h20 (by omega) (by omega) hcl2;have hb:=hB h20;have S:=hS h20;go_simp;subst hK;exact jnI_next (by omega) hLs h20 h21 hb (S.put8 rfl)
   ·cases ho;have h20:L.getD 20 true=false:=sFz hun (by omega) (by omega) (fun e=>hcl e _ (by omega));have h21:L.getD 21 true=false:=sFz h20 (by omega) (by omega) hcl2;have hb:=hB h20;have S:=hS h20;have e8:=S.s8 (hall ⟨8, .data⟩ (by simp) rfl);subst e8;obtain ⟨x0,x1,x2,x3,x4⟩:=(H1.out.keep hb).five;obtain ⟨y0,y1,y2,y3,y4⟩:=(H2.out.keep hb).five;go_simp;subst hK;exact jnI_next (by omega) hLs h20 h21 hb (S.put9 rfl)
   ·cases ho;have h20:L.getD 20 true=false:=sFz hun (by omega) (by omega) (fun e=>hcl e _ (by omega));have h21:L.getD 21 true=false:=sFz h20 (by omega) (by omega) hcl2;have hb:=hB h20;have S:=hS h20;go_simp;subst hK;exact jnI_next (by omega) hLs h20 h21 hb (S.put10 rfl)
   ·cases ho;have h20:L.getD 20 true=false:=sFz hun (by omega) (by omega) (fun e=>hcl e _ (by omega));have h21:L.getD 21 true=false:=sFz h20 (by omega) (by omega) hcl2;have hb:=hB h20;have S:=hS h20;have e10:=S.s10 (hall ⟨10, .data⟩ (by simp) rfl);subst e10;obtain ⟨x0,x1,x2,x3,x4⟩:=(H1.out.keep hb).five;obtain ⟨y0,y1,y2,y3,y4⟩:=(H2.out.keep hb).five;go_simp;subst hK;exact jnI_next (by omega) hLs h20 h21 hb (S.put11 rfl)
   ·cases ho;have h20:L.getD 20 true=false:=sFz hun (by omega) (by omega) (fun e=>hcl e _ (by omega));have h21:L.getD 21 true=false:=sFz h20 (by omega) (by omega) hcl2;have hb:=hB h20;have S:=hS h20;have e9:=S.s9 (hall ⟨9, .data⟩ (by simp) rfl);have e11:=S.s11 (hall ⟨11, .data⟩ (by simp) rfl);subst e9 e11;go_simp;refine ⟨trivial,?_⟩;refine CallsIn.inRound lq (CallsIn.mono (callsIn_wide.2 (HJ.out _)) ?_);rintro e W1 ⟨rfl,hb1⟩;subst hK;exact jnI_next (by omega) hLs h20 h21 (bSz hb hb1) ((S.keep hb1).put12 rfl)
   ·cases ho;have h20:L.getD 20 true=false:=sFz hun (by omega) (by omega) (fun e=>hcl e _ (by omega));have h21:L.getD 21 true=false:=sFz h20 (by omega) (by omega) hcl2;have hb:=hB h20;have S:=hS h20;go_simp;subst hK;exact jnI_next (by omega) hLs h20 h21 hb (S.put13 rfl)
   ·cases ho;have h20:L.getD 20 true=false:=sFz hun (by omega) (by omega) (fun e=>hcl e _ (by omega));have h21:L.getD 21 true=false:=sFz h20 (by omega) (by omega) hcl2;have hb:=hB h20;have S:=hS h20;have e13:=S.s13 (hall ⟨13, .data⟩ (by simp) rfl);subst e13;obtain ⟨x0,x1,x2,x3,x4⟩:=(H1.out.keep hb).five;obtain ⟨y0,y1,y2,y3,y4⟩:=(H2.out.keep hb).five;go_simp;subst hK;exact jnI_next (by omega) hLs h20 h21 hb (S.put14 rfl)
   ·cases ho;have h20:L.getD 20 true=false:=sFz hun (by omega) (by omega) (fun e=>hcl e _ (by omega));have h21:L.getD 21 true=false:=sFz h20 (by omega) (by omega) hcl2;have hb:=hB h20;have S:=hS h20;go_simp;subst hK;exact jnI_next (by omega) hLs h20 h21 hb (S.put15 rfl)
   ·cases ho;have h20:L.getD 20 true=false:=sFz hun (by omega) (by omega) (fun e=>hcl e _ (by omega));have h21:L.getD 21 true=false:=sFz h20 (by omega) (by omega) hcl2;have hb:=hB h20;have S:=hS h20;have e15:=S.s15 (hall ⟨15, .data⟩ (by simp) rfl);subst e15;obtain ⟨x0,x1,x2,x3,x4⟩:=(H1.out.keep hb).five;obtain ⟨y0,y1,y2,y3,y4⟩:=(H2.out.keep hb).five;go_simp;subst hK;exact jnI_next (by omega) hLs h20 h21 hb (S.put16 rfl)
   ·cases ho;have h20:L.getD 20 true=false:=sFz hun (by omega) (by omega) (fun e=>hcl e _ (by omega));have h21:L.getD 21 true=false:=sFz h20 (by omega) (by omega) hcl2;have hb:=hB h20;have S:=hS h20;have e14:=S.s14 (hall ⟨14, .data⟩ (by simp) rfl);have e16:=S.s16 (hall ⟨16, .data⟩ (by simp) rfl);subst e14 e16;go_simp;subst hK;exact jnI_next (by omega) hLs h20 h21 hb (S.put17 rfl)
   ·cases ho;have h20:L.getD 20 true=false:=sFz hun (by omega) (by omega) (fun e=>hcl e _ (by omega));have h21:L.getD 21 true=false:=sFz h20 (by omega) (by omega) hcl2;have hb:=hB h20;have S:=hS h20;have e2:=S.s2 (hall ⟨2, .data⟩ (by simp) rfl);have e7:=S.s7 (hall ⟨7, .data⟩ (by simp) rfl);have e12:=S.s12 (hall ⟨12, .data⟩ (by simp) rfl);have e17:=S.s17 (hall ⟨17, .data⟩ (by simp) rfl);subst e2 e7 e12 e17;go_simp;subst hK;exact jnI_next (by omega) hLs h20 h21 hb (S.put18 rfl)
   ·cases ho;have h20:L.getD 20 true=false:=sFz hun (by omega) (by omega) (fun e=>hcl e _ (by omega));have h21:L.getD 21 true=false:=sFz h20 (by omega) (by omega) hcl2;have hb:=hB h20;have S:=hS h20;have e18:=S.s18 (hall ⟨18, .data⟩ (by simp) rfl);subst e18;have hba:Below W'.heap.size W' (W'.alloc (.cells #[.int .i64 K, .int .i64 (pv V V2), .int .i64 JA, .int .i64 JB, .int .i64 (D*D2)] 55)):=bAz (Below.refl _ _) _;go_simp;subst hK;exact jnI_next (by omega) hLs h20 h21 (bSz hb hba) ((S.keep hba).put19 ⟨_,rfl,Bk.new _ _ rfl⟩)
   ·cases ho;have h21:L.getD 21 true=false:=sFz hun (by omega) (by omega) hcl2;have hb:=hB hun;have S:=hS hun;have e0:=S.s0 (hall ⟨0, .data⟩ (by simp) rfl);obtain ⟨g,e19,hg⟩:=S.s19 (hall ⟨19, .data⟩ (by simp) rfl);subst e0 e19;obtain ⟨u,W2,e1,e2⟩:=HAP.out W' g hb hg;have hq1:G1 W2 u:=by rw [hG1];exact e2
    clear e2;clear S hS hQ;refine wpIn_append _ _ _ rfl rfl rfl e1 ?_;subst hK;exact jnI_app hLs h21 hq1
   ·cases ho;have l20:=hall ⟨20, .data⟩ (by simp) rfl;have hq:=hQ l20 hun;rw [hG1] at hq;obtain ⟨⟨qa,qn,qc,rfl⟩,q1,q2,q3⟩:=hq;have hq2:G2 (W'.setCell ⟨w.heap.size,0,none⟩ (.slice (some qa) qn qc)):=by rw [hG2];exact q3
    clear q3;clear hQ hS;go_simp;subst hK;exact jnI_put hLs l20 hq2
 case done =>
  rintro D xs W hD hS ⟨⟨v,h1,h2⟩,h5,h6⟩ hK;have c0:=h1.cell (i:=0) (v:=v) rfl;have HX:(xs.map fun z=>jnP z.1)=pairR s t:=by rw [<- prL_rows,<-hS,List.map_map];rfl
  rw [HX] at h2;have hpl:(pairR s t).length<=160000:=by
   have h3:=pairR_len s t;have h4:s.length*t.length<=400*400:=Nat.mul_le_mul (rLz hk) (rLz hk');omega
  obtain ⟨adv,cpv,rfl,-⟩:=Rs.open (OwnR.rs h2 (by omega));have O3:Hid (OwnR W W0.heap.size (.slice adv (pairR s t).length cpv) (pairR s t)):=h2;clear hS HX h2 h1
  gi_wp2
  refine ⟨by simp, .inl ⟨_,_,rfl,run_takeDeferred hK,?_⟩⟩;refine ⟨_,results_tmp rfl _ _ _,_,rfl,?_,?_⟩
  ·refine oLz (B:=W0.heap.size) ?_ (by omega);refine oAz O3.out fun q e=>?_;obtain ⟨c,hbc⟩:=ownR_cellsJ O3.out e;exact (grownBy_putObj' W D (.deferred none)).block q (oT O3.out q e) (fun e=>by cases e;unfold Bk at hbc;rw [hbc] at hK;cases hK)
  ·exact h5.trans (belowK_b (w:=W0) (by omega) W D _ _ hD hK rfl rfl)
 case stop =>
  rintro D c pre W _ _ h _;exact h.elim
theorem pairRows_any (v u:Value) (s t:List Rw) (w:World) (h:Rs w v s) (h':Rs w u t) (hk:rokB s=true) (hk':rokB t=true) :
  Calls Tryz.prog 173 #[v,u] w fun e w'=>∃ o:Value,e= .returned o/\OwnR w' w.heap.size o (pairR s t)/\Below w.heap.size w w':=by
 obtain ⟨a,cap,rfl,-,-,-,-⟩:=Rs.open h;obtain ⟨b,cap',rfl,-,-,-,-⟩:=Rs.open h';exact callsIn_wide.1 (pairRows_in a b cap cap' s t w h h' hk hk')
end Go.Proofs.YtbdpcngcbnoioaaGreatDoor
