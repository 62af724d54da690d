import Derived.Test.YtbdpcngcbnoioaaGreatDoorGs2
import Derived.RangeFuncNested
import Derived.RangeFuncBound
import Derived.RangeFuncCalls
import Derived.RangeFuncLeaves
import Derived.Shelf.Abstract
import Derived.Shelf.RegionOpen
import Derived.WalkKit
import Derived.OwnWalkIn
import Derived.TacticsInMore
import Derived.LoopNIn
import Derived.LoopIn
set_option maxRecDepth 100000
set_option maxHeartbeats 8000000
namespace Go.Proofs.YtbdpcngcbnoioaaGreatDoor
open Go.RowKit
open _root_.List renaming map_append->fD,take_length->fH,map_cons->fV,mem_map->gY,length_filter_le->gZ,flatMap_append->iC,append_toArray->jU,filter_append->kR,size_toArray->kX,push_toArray->lI,length_cons->lY,cons_append->mF,nil_append->mJ,length_nil->nU,length->oJ
open Go renaming World->oO,callsIn_wide->qA,Value->rN,CallsIn->sE,Calls->sG,step_append_lies->sH,grownBy_putObj'->sI,Oper->wH,wpQuiet_nil->wR,Fence->AT
open Go.Proofs.Tryz renaming prog->B3,underlying126->BK,ntmps66->E0,ntmps41->EJ,func66->Ga,func41->Lx,func176->Md
open Go.RowKit renaming Below->Nh
open Go.RowKit.Below renaming refl->Ov,heap_alloc->Oz
open Go.World renaming cell?_of_block->P1
open _root_.Array renaming getElem?_eq_some_iff->P2,replicate_zero->P3,replicate_succ->P4
open Go.CallsIn renaming mono->P5
open _root_.Nat renaming le_refl->P6,reduceSub->P7,reduceAdd->P8,le_trans->P9
open Go.Fence renaming wide->PC
variable {A B D K V a b x y:Int}{N k mb:Nat}{r:Bool}
def nN (r:It):Rw:=((r.1,(0,0)),r.2)
def uC (r:Rw):It:=(r.1.1,r.2)
theorem NM (l:List It)(s:Int×Int):aU (l.map nN) (s,(0,0))=aU l s:=by
 induction l with
 | nil=>rfl
 | cons r l ih=>
  simp only[fV,aU,ih]
  congr 1
  simp[nN]
theorem NI {l:List Rw}(h:∀r∈l,r.1.2=(0,0))(s:Int×Int):aU (l.map uC) s=aU l (s,(0,0)):=by
 induction l with
 | nil=>rfl
 | cons r l ih=>
  simp only[fV,aU,ih (fun q hq=>h q (by simp[hq]))]
  congr 1
  have h1:=h r (by simp);have:(r.1=(s,((0:Int),(0:Int))))↔r.1.1=s:=by
   constructor
   ·intro e;rw[e]
   ·intro e;exact Prod.ext e h1
  by_cases e:r.1.1=s
  ·rw[if_pos (show (uC r).1=s from e),if_pos (this.2 e)];rfl
  ·rw[if_neg (show ¬(uC r).1=s from e),if_neg (fun h=>e (this.1 h))]
theorem AV {l:List It}{r:Rw}(h:r∈aP aQ (l.map nN)):r.1.2=(0,0):=by
 obtain⟨h1,h2⟩:=(Bl eE (kH eE _) (p7 aQ _) r).1 h;rw[oY eE]at h2;refine Classical.byContradiction fun hn=>h1 ?_;rw[<- h2];refine lD fun q hq e=>hn ?_;obtain⟨x,_,rfl⟩:=gY.1 hq;rw[<- e];rfl
theorem Ii (l:List It):(aP aQ (l.map nN)).map uC=aP cO l:=by
 refine nJ eI ?_ ?_ ?_
 ·unfold jX;rw[List.pairwise_map];have h0:=kH eE (l.map nN);unfold jX at h0;refine List.Pairwise.imp_of_mem ?_ h0;intro p q hp hq h;have G:=AV hp;have F:=AV hq;rw[aQ,G,F]at h
  show cO p.1.1 q.1.1=true
  simpa[cO]using h
 ·intro r hr;obtain⟨q,hq,rfl⟩:=gY.1 hr;exact p7 aQ _ q hq
 ·intro s;rw[NI (fun r hr=>AV hr),oY eE,NM]
theorem Nj (l:List It):aM (l.map nN)=aM l:=by
 induction l with
 | nil=>rfl
 | cons r l ih=>simp only[fV,aM,ih];rfl
theorem ML {l:List It}(h:l[k]?=some ((K,V),D)):(l.take (k+1)).map nN=(l.take k).map nN++[(((K,V),(0,0)),D)]:=by
 rw[gL h,fD];rfl
theorem Lv {l:List Rw}(h:l[k]?=some (((K,V),(A,B)),D)):(l.take (k+1)).map uC=(l.take k).map uC++[((K,V),D)]:=by
 rw[gL h,fD];rfl
section
variable {ops:Array wH}{o:wH}{a:Act}{Kk:Act->oO->Prop}{Q:Exit->Act->oO->Prop}{E:Prop}
theorem nX (w:oO)(T:o.guard=none)(s x:Operand)(ho:o.op=.call { callee:= .builtin .append,args:=#[s,x],argTypes:=#[28,28] })
  (F:Nat) (v:rN) (l:List Rw) (hs:a.eval s=v) (L:aD w F v l) (M:Nat) (K V A B D:Int) (hx:a.eval x=.slice (some ⟨M,0,none⟩) 1 1)
  (U:Bk w M #[.int .i64 K,.int .i64 V,.int .i64 A,.int .i64 B,.int .i64 D] 55) (hl:l.length<=2000000) (I:F<=w.heap.size)
  (h:∀g H G,aD G F (.slice (some ⟨g,0,none⟩) (l.length+1) H) (l++[(((K,V),(A,B)),D)])->w.grownBy G v.ownBlock->g<G.heap.size->Kk (a.put o.dst (.slice (some ⟨g,0,none⟩) (l.length+1) H)) G):
  if Region.wanted o (yielded ops a.tmps)=true then wH.wp B3 o a w Kk Q else E:=by
 obtain⟨i0,hi,S,R,O⟩:=info_parts qO;refine sH w T s x 28 ho F 55 i0 _ 5 40 Tryz.underlying28 hi S R O rfl (by decide) v l.length (l.flatMap fX) hs L ⟨M,0,none⟩ 1 1 (fX (((K,V),(A,B)),D)) hx rfl (pO U) (BE _) (by omega) (by unfold maxLen;omega) (by omega) I w.heap.size rfl ?_;intro g H G h1 h2 _ h4;refine h g H G ?_ h2 h4
 show G.ownsRow _ _ _ _ _ _
 rw[iC];simpa using h1
theorem Gk (w:oO)(T:o.guard=none)(s x:Operand)(ho:o.op=.call { callee:= .builtin .append,args:=#[s,x],argTypes:=#[35,35] })
  (F:Nat) (v:rN) (l:List It) (hs:a.eval s=v) (L:bZ w F v l) (M:Nat) (K V D:Int) (hx:a.eval x=.slice (some ⟨M,0,none⟩) 1 1)
  (U:Bk w M #[.int .i64 K,.int .i64 V,.int .i64 D] 98) (hl:l.length<=2000000) (I:F<=w.heap.size)
  (h:∀g H G,bZ G F (.slice (some ⟨g,0,none⟩) (l.length+1) H) (l++[((K,V),D)])->w.grownBy G v.ownBlock->g<G.heap.size->Kk (a.put o.dst (.slice (some ⟨g,0,none⟩) (l.length+1) H)) G):
  if Region.wanted o (yielded ops a.tmps)=true then wH.wp B3 o a w Kk Q else E:=by
 obtain⟨i0,hi,S,R,O⟩:=info_parts LX;refine sH w T s x 35 ho F 98 i0 _ 3 24 Tryz.underlying35 hi S R O rfl (by decide) v l.length (l.flatMap rJ) hs L ⟨M,0,none⟩ 1 1 (rJ ((K,V),D)) hx rfl (pO U) (Lc _) (by omega) (by unfold maxLen;omega) (by omega) I w.heap.size rfl ?_;intro g H G h1 h2 _ h4;refine h g H G ?_ h2 h4
 show G.ownsRow _ _ _ _ _ _
 rw[iC];simpa using h1
end
theorem zV (v:rN)(l:List It)(w:oO)(h:Is w v l)(hl:l.length<=1000000)(ha:aM l<=2305843009213693952):
  sG B3 134 #[v] w fun e H=>∃o:rN,e=.returned o/\bZ H w.heap.size o (aP cO l)/\Nh w.heap.size w H:=by
 have o0:=dW w rfl;have x6:=aG (Ov w.heap.size w) (.cells #[] 55);have HE:Hid ((aP aQ (l.map nN)).map uC=aP cO l):=Ii l;have z9:=Nj l;have z8:(l.map nN).length=l.length:=by simp
 have u0:=i6 aQ (l.map nN);obtain⟨a,v2,rfl,hc,hm,hn,T⟩:=Is.open h;unfold maxLen at hm;have HC:=(show Hid _ from T);clear T h;go_enter Tryz.func134,Tryz.ntmps134;go_wp2_with fail
 go_loopw [3,4] (fun o i wr=>∃k:Nat,k<=l.length/\i=.int .i64 k/\aD wr w.heap.size o ((l.take k).map nN)/\Nh w.heap.size w wr) (fun _ i _=>l.length-(intOf i).toNat)
 case atStart=>exact⟨0,by omega,rfl,o0,x6⟩
 case round=>
  clear o0 x6;obtain⟨k,y5,rfl,G,s⟩:=hrel;have S:Hid (aD wr w.heap.size u3 ((l.take k).map nN)):=G;clear G
  by_cases x1:k<l.length
  ·obtain⟨g,off,K,V,D,rfl,hg,hr,c0,c1,c2⟩:=HC.out k x1;have HZ:=(show Hid _ from ML hr);have d0:=cB s c0;have d1:=cB s c1;have d2:=cB s c2;have hL:((l.take k).map nN).length<=1000000:=by simp;omega
   have I:aD wr w.heap.size u3 ((l.take k).map nN):=S.out;have y2:=s.size;have C0:=(show Hid _ from c0);have C1:=(show Hid _ from c1);have C2:=(show Hid _ from c2);clear c0 c1 c2 hr S;generalize (l.take k).map nN=L at*;have R:Hid (∀W,Nh w.heap.size w W->W.cell? ⟨g,off+k*3,none⟩=some (.int .i64 K)/\W.cell? ⟨g,off+k*3+1,none⟩=some (.int .i64 V)/\W.cell? ⟨g,off+k*3+2,none⟩=some (.int .i64 D)):=
    fun W Z=>⟨cB Z C0.out,cB Z C1.out,cB Z C2.out⟩
   clear C0 C1 C2;go_wp2_with fail
   go_region_held3 (fun H=>H.cell? ⟨g,off+k*3,none⟩=some (.int .i64 K)/\H.cell? ⟨g,off+k*3+1,none⟩=some (.int .i64 V)/\H.cell? ⟨g,off+k*3+2,none⟩=some (.int .i64 D))
    (first|exact R.out _ s.drew|exact R.out _ (aG s _).drew|exact R.out _ (aG s.drew _)|exact R.out _ U)
    (first
     | (refine nX _ (by rfl) _ _ (by rfl) w.heap.size _ L (by rfl) ((I.alloc _).drew) _ K V 0 0 D (by rfl) ((Bk.new _ _ rfl).drew) (by omega) (by simp;omega) ?_;intro g7 x8 w7 Y O y4;have U:Nh w.heap.size w w7:=Below.aO (aG s _).drew O (by simp;omega) (oB I)))
   go_wp2_with fail;go_roundw
   case rel=>
    refine⟨k+1,by omega,by go_num,?_,U⟩;rw[HZ.out];exact Y
   case measure=>simp[intOf];omega
  ·obtain rfl:k=l.length:=by omega
   have I:Hid (aD wr w.heap.size u3 (l.map nN)):=by have:=S.out;rw[fH]at this;exact this
   have R1:Rs wr u3 (l.map nN):=aD.rs I.out (by omega);have y2:=s.size;clear S HC;go_wp2_with fail;refine (k9 _ (l.map nN) _ R1 (by omega) (by omega)).mono ?_;rintro e F ⟨o2,rfl,x0,x3⟩;have u8:=x3.size;have x2:=aH s x3;have R2:=aD.rs x0 (by omega);clear x0 I R1 s x3;obtain⟨a2,z6,rfl,v1,y3,v0,M⟩:=Rs.open R2;unfold maxLen at y3;have y9:=(show Hid _ from M);have oI:=mE F rfl;have y6:=aG x2 (.cells #[] 98);clear M R2;generalize aP aQ (l.map nN)=sm at*;go_wp2_with fail
   go_loopw [6,7] (fun o i wr=>∃k:Nat,k<=sm.length/\i=.int .i64 k/\bZ wr F.heap.size o ((sm.take k).map uC)/\Nh F.heap.size F wr) (fun _ i _=>sm.length-(intOf i).toNat)
   case atStart=>exact⟨0,by omega,rfl,oI,aG (Ov _ _) _⟩
   case round=>
    clear oI y6;obtain⟨k,y5,rfl,G,s⟩:=hrel;have S:Hid (bZ wr F.heap.size u6 ((sm.take k).map uC)):=G;clear G
    by_cases x1:k<sm.length
    ·obtain⟨g,off,K,V,A,B,D,rfl,hg,hr,c0,c1,c2,c3,c4⟩:=y9.out k x1;have HZ:=(show Hid _ from Lv hr);have d0:=cB s c0;have d1:=cB s c1;have d4:=cB s c4;have hL:((sm.take k).map uC).length<=1000000:=by simp;omega
     have I:bZ wr F.heap.size u6 ((sm.take k).map uC):=S.out;have u4:=s.size;have C0:=(show Hid _ from c0);have C1:=(show Hid _ from c1);have C4:=(show Hid _ from c4);clear c0 c1 c2 c3 c4 hr S;generalize (sm.take k).map uC=L at*;have R:Hid (∀W,Nh F.heap.size F W->W.cell? ⟨g,off+k*5,none⟩=some (.int .i64 K)/\W.cell? ⟨g,off+k*5+1,none⟩=some (.int .i64 V)/\W.cell? ⟨g,off+k*5+4,none⟩=some (.int .i64 D)):=
      fun W Z=>⟨cB Z C0.out,cB Z C1.out,cB Z C4.out⟩
     clear C0 C1 C4;go_wp2_with fail
     go_region_held3 (fun H=>H.cell? ⟨g,off+k*5,none⟩=some (.int .i64 K)/\H.cell? ⟨g,off+k*5+1,none⟩=some (.int .i64 V)/\H.cell? ⟨g,off+k*5+4,none⟩=some (.int .i64 D))
      (first|exact R.out _ s.drew|exact R.out _ (aG s _).drew|exact R.out _ (aG s.drew _)|exact R.out _ U)
      (first
       | (refine Gk _ (by rfl) _ _ (by rfl) F.heap.size _ L (by rfl) ((I.alloc _).drew) _ K V D (by rfl) ((Bk.new _ _ rfl).drew) (by omega) (by simp;omega) ?_;intro g7 x8 w7 Y O y4;have U:Nh F.heap.size F w7:=Below.aO (aG s _).drew O (by simp;omega) (oB I)))
     go_wp2_with fail;go_roundw
     case rel=>
      refine⟨k+1,by omega,by go_num,?_,U⟩;rw[HZ.out];exact Y
     case measure=>simp[intOf];omega
    ·obtain rfl:k=sm.length:=by omega
     have I:Hid (bZ wr F.heap.size u6 (sm.map uC)):=by have:=S.out;rw[fH]at this;exact this
     clear S;go_wp2_with fail;go_ret;refine⟨_,rfl,?_,aH x2 s⟩;rw[<- HE.out];exact bQ I.out (by omega)
theorem CL {l:List Rw}(h:aR l=false):bL l x y=[]:=by simp[bL,h]
theorem CY {l:List Rw}(h:bH x y=false):bL l x y=[]:=by simp[bL,h]
theorem kS {l:List Rw}(h:aR l=true)(s:bH x y=true):bL l x y=aP cO (cX l x y):=by simp[bL,h,s]
theorem pF (l:List Rw)(x y:Int):(cX l x y).length<=l.length:=by
 unfold cX;rw[List.length_map];exact gZ _ _
theorem Ce (l:List Rw)(x y:Int):(bL l x y).length<=400:=by
 unfold bL
 split
 ·rename_i h;simp at h;have h1:=fP h.1;have h2:=pF l x y;have h3:=i6 cO (cX l x y);omega
 ·simp
theorem BP {l:List Rw}(h:l[k]?=some (((K,V),(A,B)),D))(hl:cV A B x y=true):cX (l.take (k+1)) x y=cX (l.take k) x y++[((K,V),D)]:=by
 unfold cX;rw[gL h,kR,fD];simp[hl]
theorem DA {l:List Rw}(h:l[k]?=some (((K,V),(A,B)),D))(hl:cV A B x y=false):cX (l.take (k+1)) x y=cX (l.take k) x y:=by
 unfold cX;rw[gL h,kR,fD];simp[hl]
theorem G5 {l:List Rw}:aM (cX l x y)<=aM l:=by
 unfold cX
 induction l with
 | nil=>simp[aM]
 | cons r l ih=>
  rw[List.filter_cons]
  split
  ·simp only[fV,aM];omega
  ·simp only[aM];omega
theorem vX (h:bH a b=r)(w:oO):sG B3 65 #[tv a b] w fun e s=>e=.returned (.bool r)/\Nh w.heap.size w s:=by
 rw[<- h];exact fC a b w
theorem qT {B:Nat}{a w:oO}(h:Nh B a w)(F:B<=w.heap.size)(o:Obj):Nh B a (w.alloc o):=
 h.trans ⟨rfl,rfl,rfl,by simp,fun k s=>Oz _ _ _ (by omega)⟩
theorem Hi (v:rN)(l:List Rw)(x y:Int)(w:oO)(h:Rs w v l):
  sG B3 66 #[v,tv x y] w fun e w'=>∃o:rN,e=.returned o/\bZ w' w.heap.size o (bL l x y)/\Nh w.heap.size w w':=by
 have T:Bk ((w.alloc (.cells #[.int .i64 x,.int .i64 y] 32)).alloc (.cells #[] 98)) w.heap.size #[.int .i64 x,.int .i64 y] 32:=(Bk.new _ _ rfl).alloc _;have S:=aG (aG (Ov w.heap.size w) (.cells #[.int .i64 x,.int .i64 y] 32)) (.cells #[] 98);have U:bZ ((w.alloc (.cells #[.int .i64 x,.int .i64 y] 32)).alloc (.cells #[] 98)) w.heap.size (.slice (some ⟨w.heap.size+1,0,none⟩) 0 0) []:=bQ (mE (w.alloc (.cells #[.int .i64 x,.int .i64 y] 32)) (B:=w.heap.size+1) (by simp)) (by omega);have h0:=h.keep S;cases Y:aR l
 ·have HF:Hid (bL l x y=[]):=CL Y;go_enter Ga,E0;go_wp2_with fail;refine (sR Y h0).mono ?_;rintro e w1 ⟨rfl,F⟩;have O1:Hid (bZ w1 w.heap.size (.slice (some ⟨w.heap.size+1,0,none⟩) 0 0) []):=bJ U F;clear U T;go_wp2_with fail;go_ret;refine⟨_,rfl,?_,aH S F⟩;rw[HF.out];exact O1.out
 cases h9:bH x y
 ·have HF:Hid (bL l x y=[]):=CY h9;go_enter Ga,E0;go_wp2_with fail;refine (sR Y h0).mono ?_;rintro e w1 ⟨rfl,F⟩;have O:=aH S F;have O1:Hid (bZ w1 w.heap.size (.slice (some ⟨w.heap.size+1,0,none⟩) 0 0) []):=bJ U F;obtain⟨t0,t1,_,_⟩:=(T.keep F).two;clear U T;go_wp2_with fail;refine (vX h9 _).mono ?_;rintro e w2 ⟨rfl,I⟩;have O2:Hid (bZ w2 w.heap.size (.slice (some ⟨w.heap.size+1,0,none⟩) 0 0) []):=bJ O1.out I;go_wp2_with fail;go_ret;refine⟨_,rfl,?_,aH O I⟩;rw[HF.out];exact O2.out
 have HF:Hid (bL l x y=aP cO (cX l x y)):=kS Y h9;have ha:=lF Y;have w5:=G5 (l:=l) (x:=x) (y:=y);have hl:=fP Y;have w9:=pF l x y;have U:=mE (w.alloc (.cells #[.int .i64 x,.int .i64 y] 32)) (B:=w.heap.size+1) (by simp);have v3:((w.alloc (.cells #[.int .i64 x,.int .i64 y] 32)).alloc (.cells #[] 98)).heap.size=w.heap.size+1+1:=by simp
 obtain⟨a,a0,rfl,hc,hm,hn,R⟩:=Rs.open h;unfold maxLen at hm;have HC:=(show Hid _ from R);clear h R;go_enter Ga,E0;go_wp2_with fail;generalize ((w.alloc (.cells #[.int .i64 x,.int .i64 y] 32)).alloc (.cells #[] 98))=w0 at*;refine (sR Y h0).mono ?_;rintro e w1 ⟨rfl,F⟩;have O:=aH S F;have o1:=bJ U F;have y5:=T.keep F;have w4:=F.size;obtain⟨t0,t1,_,_⟩:=y5.two;clear U T S F h0;go_wp2_with fail;refine (vX h9 _).mono ?_;rintro e w2 ⟨rfl,I⟩;have y1:=aH O I;have o2:=bJ o1 I;have z1:=y5.keep I;have v9:=I.size;clear o1 y5 O I t0 t1;generalize x9:w.heap.size=G at*;go_wp2_with fail
 go_loopw [5,6] (fun o i wr=>∃k:Nat,k<=l.length/\i=.int .i64 k/\bZ wr (G+1) o (cX (l.take k) x y)/\Bk wr G #[.int .i64 x,.int .i64 y] 32/\G+1<=wr.heap.size/\Nh G w wr) (fun _ i _=>l.length-(intOf i).toNat)
 case atStart=>exact⟨0,by omega,rfl,o2,z1,by omega,y1⟩
 case round=>
  clear o2 z1 y1;obtain⟨k,w8,rfl,y0,bt,v8,hb⟩:=hrel;have HO:Hid (bZ wr (G+1) u5 (cX (l.take k) x y)):=y0;clear y0
  by_cases u0:k<l.length
  ·obtain⟨g,off,K,V,A,B,D,rfl,hg,hr,c0,c1,c2,c3,c4⟩:=HC.out k u0;have HR:=(show Hid _ from hr);have y2:Nh w.heap.size w wr:=by rw[x9];exact hb
   have d2:∀p:dH wr,p.ww.cell? ⟨g,off+k*5+2,none⟩=some (.int .i64 A):=fun p=>cB p.below (cB y2 c2);have d3:∀p:dH wr,p.ww.cell? ⟨g,off+k*5+3,none⟩=some (.int .i64 B):=fun p=>cB p.below (cB y2 c3);have t0:=bt.cw;have t1:=bt.cu;have hne:=jC wr;have HX:Hid (∀W,Nh G w W->W.cell? ⟨g,off+k*5,none⟩=some (.int .i64 K)/\W.cell? ⟨g,off+k*5+1,none⟩=some (.int .i64 V)/\W.cell? ⟨g,off+k*5+4,none⟩=some (.int .i64 D)):=
    fun W hW=>by rw[<- x9]at hW;exact⟨cB hW c0,cB hW c1,cB hW c4⟩
   have hL:(cX (l.take k) x y).length<=400:=by have:=pF (l.take k) x y;simp at this;omega
   have ik:((k:Int)<(l.length:Int)):=by omega
   clear c0 c1 c2 c3 c4 hr y2;cases hp:cV A B x y
   ·have HZ:Hid (cX (l.take (k+1)) x y=cX (l.take k) x y):=DA HR.out hp;go_wp2_with fail
    (refine jJ (by kernel_rfl) (by kernel_rfl) ?_;(repeat (go_big_quiet_step ((first|(go_at_call 129;exact iJ (iS (by with_reducible assumption) _))))));refine wR ?_)
    intro w3 s
    replace s:=jM s
    have H:=hb.trans (s.mono (by omega));have z9:=s.size;have y4:=bt.keep s;have Z:Hid (bZ w3 (G+1) u5 (cX (l.take k) x y)):=bJ HO.out s;clear HO bt d2 d3 t0 t1 hne;go_wp2_with fail;go_roundw
    case rel=>exact⟨k+1,by omega,by go_num,by rw[HZ.out];exact Z.out,y4,by omega,H⟩
    case measure=>simp[intOf];omega
   ·have HZ:Hid (cX (l.take (k+1)) x y=cX (l.take k) x y++[((K,V),D)]):=BP HR.out hp;go_wp2_with fail
    (refine jJ (by kernel_rfl) (by kernel_rfl) ?_;(repeat (go_big_quiet_step ((first|(go_at_call 129;exact iJ (iS (by with_reducible assumption) _))))));refine wR ?_)
    intro w3 s
    replace s:=jM s
    have H:=hb.trans (s.mono (by omega));have z9:=s.size;have y4:=bt.keep s;have Z:bZ w3 (G+1) u5 (cX (l.take k) x y):=bJ HO.out s;obtain⟨x0,x1,x4⟩:=HX.out w3 H;have z0:G<=w3.heap.size:=by omega
    clear HO bt d2 d3 t0 t1 hne hb s;generalize cX (l.take k) x y=L at*;go_wp2_with fail
    go_region_held3 (fun w'=>w'.cell? ⟨g,off+k*5,none⟩=some (.int .i64 K)/\w'.cell? ⟨g,off+k*5+1,none⟩=some (.int .i64 V)/\w'.cell? ⟨g,off+k*5+4,none⟩=some (.int .i64 D))
     (first|exact HX.out _ H.drew|exact HX.out _ (qT H z0 _).drew|exact HX.out _ y9)
     (first
      | (refine Gk _ (by rfl) _ _ (by rfl) (G+1) _ L (by rfl) ((Z.alloc _).drew) _ K V D (by rfl) ((Bk.new _ _ rfl).drew) (by omega) (by simp;omega) ?_;intro g7 v4 w7 z2 M w6;have y9:Nh G w w7:=Below.aO (qT H z0 _).drew M (by simp;omega) (fun q e=>Nat.le_of_succ_le (oB Z q e))))
    have v0:=Bk.aO ((y4.alloc _).drew) M (fun q e=>by have:=oB Z q e;omega);have z8:G+1<=w7.heap.size:=by have:=M.size;simp at this;omega
    go_wp2_with fail;go_roundw
    case rel=>
     refine⟨k+1,by omega,by go_num,?_,v0,z8,y9⟩;rw[HZ.out];exact z2
    case measure=>simp[intOf];omega
  ·obtain rfl:k=l.length:=by omega
   have O1:Hid (bZ wr (G+1) u5 (cX l x y)):=by have:=HO.out;rw[fH]at this;exact this
   have R1:Is wr u5 (cX l x y):=bZ.is O1.out (by omega);clear HO;go_wp2_with fail;refine (zV _ (cX l x y) _ R1 (by omega) (by omega)).mono ?_;rintro e w3 ⟨o3,rfl,x8,H⟩;have Z:Hid (bZ w3 wr.heap.size o3 (aP cO (cX l x y))):=x8;clear x8;go_wp2_with fail;go_ret;refine⟨_,rfl,?_,by rw[x9];exact hb.trans (H.mono (by omega))⟩;rw[HF.out];exact bQ Z.out (by omega)
open Go.ChangeMaps (setBlock)
theorem zS (b:Nat)(M:List It)(w:oO)(R:d9 qI thOk w b M)(v0:M.length<=1000000):
  sG B3 107 #[.map (some b)] w fun e w'=>∃o:rN,e=.returned o/\bZ w' w.heap.size o (aP cO M)/\Nh w.heap.size w w':=by
 have z9:=R.lt;go_enter Tryz.func107,Tryz.ntmps107
 go_wp2_with (at_range;refine DJ _ rfl _ _ rfl _ _ BK _ M rfl R ?_;intro w0 s x7 y8)
 go_frame
 clear R
 go_loopw [3] (fun o wr=>∃(done left L:List It),dP qI thOk wr b w.heap.size M left/\M.Perm (done++left)/\L.Perm (done.filter fun r=>decide (r.2≠0))/\bZ wr (w.heap.size+1) o L/\w.heap.size+1<=wr.heap.size/\Nh w.heap.size w wr) (fun _ wr=>D4 wr b w.heap.size)
 case atStart=>exact⟨[],M,[],s,by simp,by simp,oN _ _ _ _ _,by omega,x7⟩
 case round=>
  clear s x7 y8;obtain⟨done,left,L,s,x0,x1,x2,y5,hb⟩:=hrel;have F:=(show Hid _ from x0);have G:=(show Hid _ from x1);have HO:Hid (bZ wr (w.heap.size+1) u3 L):=x2;have y0:=s.count;have v1:L.length<=M.length:=by
   have h1:=x1.length_eq;have h2:=gZ (fun r:It=>decide (r.2≠0)) done;have h3:=x0.length_eq;simp at h3;omega
  have hM:=(show Hid _ from s.nodup);clear x0 x1 x2
  go_wp2_with (at_next;refine Fg _ rfl _ rfl _ _ M left rfl s ?_ ?_)
  ·intro hz;subst hz;have I:bZ wr (w.heap.size+1) u3 L:=HO.out;have T:L.Perm (M.filter fun r=>decide (r.2≠0)):=by
    have h1:=F.out;rw[List.append_nil]at h1;exact G.out.trans (h1.filter _).symm
   have HD:=(show Hid _ from T);clear T HO F G y0;have y9:L.length<=2097152:=by omega
   go_wp2_with fail;refine (Iy I y9 y5).mono ?_;rintro e w2 ⟨rfl,l',hp,Y,U,z2⟩;have x9:l'=aP cO M:=collected eI hM.out (fun _=>rfl) HD.out hp Y;have z0:Nh w.heap.size w w2:=hb.trans (z2.mono (by omega));have O2:Hid (bZ w2 (w.heap.size+1) u3 l'):=U;clear U hp Y I;go_wp2_with fail;go_ret;refine⟨_,rfl,?_,z0⟩;rw[<- x9];exact bQ O2.out (by omega)
  ·intro K V D S w1 hp O u8 hx y7 u4;have I:bZ w1 (w.heap.size+1) u3 L:=zO HO.out hx (fun q e=>by have:=oB HO.out q e;omega);have x6:Nh w.heap.size w w1:=hx.below hb hb.size (by omega);have z5:w.heap.size+1<=w1.heap.size:=by omega
   have z3:=O.count;clear hx s hb HO y7
   by_cases hD:D=0
   ·subst hD;have HZ:=(show Hid _ from Ak F.out hp G.out rfl);have h9:=O.keep (aG (Ov _ w1) (.cells #[.int .i64 K,.int .i64 V] 131));have O2:Hid (bZ (w1.alloc (.cells #[.int .i64 K,.int .i64 V] 131)) (w.heap.size+1) u3 L):=I.alloc _;clear I F G hp;go_wp2_with fail;go_roundw
    case rel=>exact⟨_,S,L,h9,HZ.out.1,HZ.out.2,O2.out,by simp;omega,aG x6 _⟩
    case measure=>rw[h9.count];omega
   ·have nD:(D==0)=false:=by simpa using hD
    have HZ:=(show Hid _ from zU F.out hp G.out hD);clear F G hp
    go_wp2_with (at_builtin;refine vB _ rfl _ _ rfl (w.heap.size+1) _ _ rfl ((I.alloc _).alloc _) _ _ _ _ rfl (Bk.new _ _ (by simp)) (by omega) (by simp;omega) ?_;intro g3 z7 w3 x8 H u0)
    have Z:=(O.keep (aG (aG (Ov _ w1) (.cells #[.int .i64 K,.int .i64 V] 131)) (.cells #[.int .i64 K,.int .i64 V,.int .i64 D] 98))).aO H (fun q e=>by have:=oB I q e;omega);have z1:Nh w.heap.size w w3:=Below.aO (aG (aG x6 _) _) H (by simp;omega) (fun q e=>by have:=oB I q e;omega);have y6:w.heap.size+1<=w3.heap.size:=by have:=H.size;simp at this;omega
    go_roundw
    case rel=>exact⟨_,S,L++[((K,V),D)],Z,HZ.out.1,HZ.out.2,x8,y6,z1⟩
    case measure=>rw[Z.count];omega
open Go.Shelf
open Go.ChangeMaps (setBlock)
attribute [local go_sem] wH.semAt_some
structure Kx (N mb:Nat)(W W':oO):Prop where
 size:W.heap.size<=W'.heap.size
 block:∀k,k<N->k≠mb->W'.heap[k]?=W.heap[k]?
theorem Kx.refl (N mb:Nat)(W:oO):Kx N mb W W:=⟨P6 _,fun _ _ _=>rfl⟩
theorem Kx.trans {A B C:oO}(h:Kx N mb A B)(k:Kx N mb B C):Kx N mb A C:=⟨P9 h.size k.size,fun i hi hm=>(k.block i hi hm).trans (h.block i hi hm)⟩
abbrev XI:={ x:It // thOk x.1 /\ -99999<=x.2/\x.2<=99999 }
theorem Kx.bk {W W':oO}{c:Array rN}{t:TypeId}(h:Kx N mb W W')(F:Bk W k c t)(s:k<N)(hm:k≠mb):Bk W' k c t:=by
 unfold Bk;rw[h.block k s hm];exact F
theorem Cg (a:Option Addr)(n s:Nat)(x y:Int)(w:oO):
  sG B3 106 #[.slice a n s,tv x y] w fun e F=>e=.returned (.func (.func 176) #[] #[.pointer (some ⟨w.heap.size,0,none⟩),.pointer (some ⟨w.heap.size+1,0,none⟩)])/\F=(w.alloc (.cells #[.slice a n s] 28)).alloc (.cells #[.int .i64 x,.int .i64 y] 32):=by
 go_enter Tryz.func106,Tryz.ntmps106;go_wp2_with fail;go_ret;exact⟨rfl,rfl⟩
theorem zG {c d:Int}(h:cV a b c d=r)(w:oO):sG B3 90 #[tv a b,tv c d] w fun e s=>e=.returned (.bool r)/\Nh w.heap.size w s:=by
 rw[<- h];exact rR a b c d w
abbrev NP (z:XI):Array rN:=#[qI z.1.1,.int .i64 z.1.2]
theorem Jd (lp b1 b2 N mb:Nat)(a:Option Addr)(x0:Nat)(l:List Rw)(x y:Int)(J Jx:List XI->oO->Prop)(w W:oO)
  (hJ:∀pre A B,J pre A->Nh A.heap.size A B->J pre B)
  (hY:∀pre z W,J pre W->pre.length<l.length->YieldAt PC (3-1) B3 lp (NP z) W fun e W'=>
   (e=.returned (.bool true)/\J (pre++[z]) W'/\Kx N mb W W')\/(e=.returned (.bool false)/\Jx (pre++[z]) W'))
  (hl:l.length<=1000000) (H:∀r∈l,cU r=true) (u8:Rs w (.slice a l.length x0) l) (hB:∀g,g<w.heap.size->g<N/\g≠mb) (I:∀k,k<w.heap.size->W.heap[k]?=w.heap[k]?) (U:N<=W.heap.size)
  (x5:Bk W b1 #[.slice a l.length x0] 28) (S:Bk W b2 #[.int .i64 x,.int .i64 y] 32) (v3:b2<N) (v2:b2≠mb) (h0:J [] W):
  sE PC 3 B3 176 #[.func (.yield lp) #[] #[],.pointer (some ⟨b1,0,none⟩),.pointer (some ⟨b2,0,none⟩)] W fun e W'=>(∃v,e=.returned v) /\
   ((∃ys:List XI,ys.map (·.1)=cX l x y/\J ys W')\/(∃pre,True/\Jx pre W')):=by
 have d0:=x5.cell (i:=0) (v:= .slice a l.length x0) rfl;obtain⟨a',v9,e,hc,hm,hn,M⟩:=Rs.open u8;cases e;unfold maxLen at hm;have HC:=(show Hid _ from M);clear M;refine callsIn_of_wp Md rfl trivial ?_ rfl;simp only[Tryz.ntmps176,kX,lY,nU,P8,P7,P4,P3,lI,jU,mJ,mF]
 gi_wp2
 gi_loopw [8] (fun i wr=>∃(k:Nat)(pre:List XI),k<=l.length/\i=.int .i64 k/\pre.map (·.1)=cX (l.take k) x y/\J pre wr/\(∀k,k<w.heap.size->wr.heap[k]?=w.heap[k]?)/\N<=wr.heap.size/\Bk wr b2 #[.int .i64 x,.int .i64 y] 32) (fun i _=>l.length-(intOf i).toNat)
 case atStart=>exact⟨0,[],by omega,rfl,rfl,h0,I,U,S⟩
 case round=>
  clear d0 h0 I U S x5;obtain⟨k,pre,w5,rfl,L,Z,I,U,S⟩:=hrel
  by_cases u0:k<l.length
  ·obtain⟨g,off,K,V,A,B,D,rfl,hg,hr,c0,c1,c2,c3,c4⟩:=HC.out k u0;have HR:=(show Hid _ from hr);have q0:wr.cell? ⟨g,off+k*5,none⟩=some (.int .i64 K):=by rw[P1 (w:=w) (I g hg)];exact c0
   have q1:wr.cell? ⟨g,off+k*5+1,none⟩=some (.int .i64 V):=by rw[P1 (w:=w) (I g hg)];exact c1
   have q2:wr.cell? ⟨g,off+k*5+2,none⟩=some (.int .i64 A):=by rw[P1 (w:=w) (I g hg)];exact c2
   have q3:wr.cell? ⟨g,off+k*5+3,none⟩=some (.int .i64 B):=by rw[P1 (w:=w) (I g hg)];exact c3
   have q4:wr.cell? ⟨g,off+k*5+4,none⟩=some (.int .i64 D):=by rw[P1 (w:=w) (I g hg)];exact c4
   clear c0 c1 c2 c3 c4 hr;have ik:((k:Int)<(l.length:Int)):=by omega
   have x1:Bk (wr.alloc (.cells #[.int .i64 K,.int .i64 V,.int .i64 A,.int .i64 B,.int .i64 D] 55)) wr.heap.size #[.int .i64 K,.int .i64 V,.int .i64 A,.int .i64 B,.int .i64 D] 55:=Bk.new _ _ rfl;have O:Nh wr.heap.size wr (wr.alloc (.cells #[.int .i64 K,.int .i64 V,.int .i64 A,.int .i64 B,.int .i64 D] 55)):=aG (Ov _ _) _;have G:=S.keep O;obtain⟨t0,t1,_,_⟩:=G.two;cases hp:cV A B x y
   ·have HZ:Hid (cX (l.take (k+1)) x y=cX (l.take k) x y):=DA HR.out hp
    gi_wp2
    refine⟨trivial,?_⟩;refine P5 (qA.2 (zG hp _)) ?_;rintro e w3 ⟨rfl,s⟩;have F:=aH O s;have h9:=hJ _ _ _ Z F;have z8:=F.size;have R:=G.keep s;have Y:∀k,k<w.heap.size->w3.heap[k]?=w.heap[k]?:=fun k H=>by
     have:=(hB k H).1;rw[F.block k (by omega)];exact I k H
    clear G s O t0 t1 x1 q0 q1 q2 q3 q4
    gi_wp2
    refine⟨fun _ h=>(by cases h),?_⟩
    gi_wp2
    go_roundw
    case rel=>exact⟨k+1,pre,by omega,by go_num,by rw[HZ.out];exact L,h9,Y,by omega,R⟩
    case measure=>simp[intOf];omega
   ·have HZ:Hid (cX (l.take (k+1)) x y=cX (l.take k) x y++[((K,V),D)]):=BP HR.out hp;have x4:=H _ (List.mem_of_getElem? HR.out);have x3:thOk (K,V) /\ -99999<=D/\D<=99999:=by
     have h1:=yA x4;have h2:=lG x4;exact⟨⟨h1.1,h1.2.1⟩,h2⟩
    have z9:pre.length<l.length:=by
     have h1:=congrArg oJ L;have h2:=pF (l.take k) x y;simp at h1 h2;omega
    gi_wp2
    refine⟨trivial,?_⟩;refine P5 (qA.2 (zG hp _)) ?_;rintro e w3 ⟨rfl,s⟩;have F:=aH O s;have h9:=hJ _ _ _ Z F;have z8:=F.size;have R:=G.keep s;have Y:∀k,k<w.heap.size->w3.heap[k]?=w.heap[k]?:=fun k H=>by
     have:=(hB k H).1;rw[F.block k (by omega)];exact I k H
    have x6:=x1.keep s;obtain⟨y0,y1,y2,y3,y4⟩:=x6.aa;obtain⟨fn,tmps,assign,body,hy,hR⟩:=hY pre ⟨((K,V),D),x3⟩ w3 h9 z9;clear G s O t0 t1 x1 q0 q1 q2 q3 q4 x6
    gi_wp2
    refine hR.mono ?_;rintro e W3 (⟨rfl,v0,T⟩|⟨rfl,x9⟩)
    ·have x7:=T.bk R v3 v2;have w4:=T.size;have u4:∀k,k<w.heap.size->W3.heap[k]?=w.heap[k]?:=fun k H=>by
      have:=hB k H;rw[T.block k this.1 this.2];exact Y k H
     clear hR hy
     gi_wp2
     go_roundw
     case rel=>exact⟨k+1,pre++[⟨((K,V),D),x3⟩],by omega,by go_num,by rw[HZ.out,fD,L];rfl,v0,u4,by omega,x7⟩
     case measure=>simp[intOf];omega
    ·clear hR hy
     gi_wp2
     refine bodyPost_ret (results_none rfl _ _ _) rfl ?_;exact⟨⟨_,rfl⟩,.inr ⟨_,trivial,x9⟩⟩
  ·obtain rfl:k=l.length:=by omega
   gi_wp2
   go_end0
   exact⟨⟨_,rfl⟩,.inl ⟨pre,by rw[L,fH],Z⟩⟩
theorem yZ {A B:oO}(h:Nh A.heap.size A B):A.grownBy B none:=⟨h.os,h.tape,h.output,h.size,fun k s _=>h.block k s⟩
theorem zL (L H mb:Nat)(a:Option Addr)(F:Nat)(l:List Rw)(x y:Int)(w w0:oO)(hl:l.length<=1000000)(G:∀r∈l,cU r=true)(O:Rs w (.slice a l.length F) l)(R:∀g,g<w.heap.size->g<w0.heap.size/\g≠mb)(hW:∀k,k<w.heap.size->w0.heap[k]?=w.heap[k]?)
  (M:Bk w0 L #[.slice a l.length F] 28) (I:Bk w0 H #[.int .i64 x,.int .i64 y] 32) (S:H≠mb):
  SeqStopsK PC 3 B3 176 #[.pointer (some ⟨L,0,none⟩),.pointer (some ⟨H,0,none⟩)] NP (Kx w0.heap.size mb) (fun T=>T.map (·.1)=cX l x y) (fun _=>True) l.length w0:=
 fun U J Jx W s hJ _ Z h0=>
  Jd U L H w0.heap.size mb a F l x y J Jx w W (fun pre A B h Y=>hJ pre A B none h (yZ Y) (fun r e=>by cases e)) Z hl G O R
   (fun k G=>by rw[s.block k (R k G).1];exact hW k G) s.size (M.keep s) (I.keep s) I.lt S h0
open Go.ChangeMaps (setBlock)
attribute [local go_sem] wH.semAt_some
theorem wF (h:bH a b=r)(w:oO):sG B3 67 #[tv a b] w fun e s=>e=.returned (.bool r)/\Nh w.heap.size w s:=by
 rw[<- h];exact fB a b w
theorem Kx.put (W:oO)(l:Nat)(o s:Obj)(G:N<=l)(h:W.heap[l]?=some o):Kx N mb W (W.putObj l s):=by
 have hg:=sI W l s;exact⟨hg.size,fun k F _=>hg.block k (by have:=(P2.1 h).1;omega) (fun e=>by cases e;omega)⟩
theorem d9.grown {F:Type}{H:F->rN}{G:F->Prop}{w w1:oO}{b:Nat}{M:List (F×Int)}{s:Option Nat}(h:d9 H G w b M)(hg:w.grownBy w1 s)(hr:∀r,s=some r->b<r):d9 H G w1 b M:=
 h.move (hg.block b h.lt (fun e=>by have:=hr b e.symm;omega))
theorem iO {W:oO}{b:Nat}{o:Obj}(h:k≠b):(setBlock W b o).heap[k]?=W.heap[k]?:=by
 simp only[setBlock,Array.getElem?_setIfInBounds];rw[if_neg (Ne.symm h)]
theorem Iq (pre:List XI):aM (pre.map (·.1))<=99999*(pre.length:Int):=by
 have:=lQ (l:=pre.map (·.1)) (c:=99999) (fun r hr=>by
  obtain⟨z,_,rfl⟩:=gY.1 hr;exact z.2.2)
 simpa using this
theorem Ib (a:Option Addr)(H:Nat)(l:List Rw)(x y:Int)(w:oO)(h:Rs w (.slice a l.length H) l)(R:aR l=true)(y0:bH x y=true):
  sE PC 4 B3 41 #[.slice a l.length H,tv x y] w fun e w'=>∃o:rN,e=.returned o/\bZ w' w.heap.size o (bL l x y)/\Nh w.heap.size w w':=by
 have y6:Bk (w.alloc (.cells #[.int .i64 x,.int .i64 y] 32)) w.heap.size #[.int .i64 x,.int .i64 y] 32:=Bk.new _ _ rfl;have x2:=aG (Ov w.heap.size w) (.cells #[.int .i64 x,.int .i64 y] 32);have h0:=h.keep x2;have HF:Hid (bL l x y=aP cO (cX l x y)):=kS R y0;have hl:=fP R;have b2:=pF l x y;have z8:=@run_makeMap B3;have HH:Hid (Rs w (.slice a l.length H) l):=h;clear h;refine callsIn_of_wp_marks Lx rfl trivial ?_ rfl;simp only[EJ,kX,lY,nU,P8,P7,P4,P3,lI,jU,mJ,mF]
 gi_wp2
 refine⟨trivial,?_⟩;refine P5 (qA.2 (iR R h0)) ?_;rintro e w1 ⟨rfl,x1⟩;have h9:=aH x2 x1;have x6:=y6.keep x1;obtain⟨t0,t1,_,_⟩:=x6.two;clear h0 y6 x2 x1
 gi_wp2
 refine⟨trivial,?_⟩;refine P5 (qA.2 (wF y0 _)) ?_;rintro e G ⟨rfl,x0⟩;have S:=aH h9 x0;have x5:=x6.keep x0;obtain⟨t2,t3,_,_⟩:=x5.two;have z7:=S.size;clear t0 t1 x6 h9 x0;have a5:=x5.lt;generalize z6:w.heap.size=Y at*
 gi_wp2
 refine⟨trivial,?_⟩;refine P5 (qA.2 (Cg _ _ _ _ _ _)) ?_;rintro e F ⟨rfl,I⟩;have m0:d9 qI thOk F G.heap.size []:=by
  rw[I];exact (((d9.new G rfl).keep (aG (Ov _ _) _)).keep (aG (Ov _ _) _)).keep (aG (Ov _ _) _)
 have u0:Bk F (G.heap.size+1) #[.map (some G.heap.size)] 126:=by
  rw[I];exact ((Bk.new (w:=G.alloc (.map #[] 0)) _ _ (by simp)).alloc _).alloc _
 have u8:Bk F (G.heap.size+1+1) #[.slice a l.length H] 28:=by
  rw[I];exact (Bk.new (w:=(G.alloc (.map #[] 0)).alloc _) _ _ (by simp)).alloc _
 have u4:Bk F (G.heap.size+1+1+1) #[.int .i64 x,.int .i64 y] 32:=by
  rw[I];exact Bk.new (w:=((G.alloc (.map #[] 0)).alloc _).alloc _) _ _ (by simp)
 have a7:F.heap.size=G.heap.size+1+1+1+1:=by rw[I];simp
 have y4:Nh G.heap.size G F:=by
  rw[I];exact aG (aG (aG (aG (Ov _ _) _) _) _) _
 clear I z8;have y5:Nh Y w F:=S.trans (y4.mono z7)
 gi_wp2
 clear y4 S x5 t2 t3;generalize G.heap.size=mb at*;refine wpIn_rangeFunc_ownH (n:=4) (w0:=F) rfl (by omega) (gf:=176) (lb:=#[.pointer (some ⟨mb+1+1,0,none⟩),.pointer (some ⟨mb+1+1+1,0,none⟩)]) rfl trivial (enters_of Md (by kernel_rfl) rfl)
  (zL (mb+1+1) (mb+1+1+1) mb a H l x y w F (by omega) (fun r hr=>eY R hr) HH.out (fun g hg=>⟨by omega,by omega⟩) (fun k R=>y5.block k (by omega)) u8 u4 (by omega))
  (fun h k=>h.trans k) (fun W lq o o' hN ho _ _=>Kx.put W lq o o' hN ho) (Ov _ _) (fun _=>rfl)
  (fun pre W=>(∃M:List It,d9 qI thOk W mb M/\(∀s,aU M s=aU (pre.map (·.1)) s)/\M.length<=pre.length)/\Bk W (mb+1) #[.map (some mb)] 126/\Nh Y w W/\F.heap.size<=W.heap.size)
  (fun _ _ _=>False)
  (fun pre A B z4 hs hg hr=>by
   obtain⟨⟨M,h1,h2,h3⟩,h4,h5,h6⟩:=hs;refine⟨⟨M,h1.grown hg (fun r e=>by have:=(hr r e).1;omega),h2,h3⟩,Bk.aO h4 hg (fun r e=>by have:=(hr r e).1;omega),Below.aO h5 hg (by have:=h4.lt;omega) (fun r e=>by have:=(hr r e).1;omega),P9 h6 hg.size⟩)
  (fun _ _ _ _ _ hs _ _=>hs)
  ⟨⟨[],m0,fun s=>rfl,by simp⟩,u0,y5,P6 _⟩
  (fun z a' W=>∃U,F.heap.size<=U/\Bk W U #[.int .i64 z.1.1.1,.int .i64 z.1.1.2] 131/\a'={ tmps:=#[.slice a l.length H,tv x y,undef,.pointer (some ⟨Y,0,none⟩),.slice none 0 0,.pointer (some ⟨mb+1,0,none⟩),.pointer (some ⟨U,0,none⟩),.int .i64 z.1.2,.slice a l.length H,.bool true,.bool false,.bool false,tv x y,.bool true,.bool false,.bool false,.map (some mb),.slice a l.length H,tv x y,.func (.func 176) #[] #[.pointer (some ⟨mb+1+1,0,none⟩),.pointer (some ⟨mb+1+1+1,0,none⟩)],qI z.1.1,.int .i64 z.1.2,undef,undef,undef,undef,undef,undef,undef,undef,undef],defers:=[] })
  (fun z a' _ A B z4 hs hg hr=>by
   obtain⟨U,h1,h2,h3⟩:=hs;exact⟨U,h1,Bk.aO h2 hg (fun r e=>by
    obtain⟨_,o,h4,h5⟩:=hr r e;rintro rfl;unfold Bk at h2;rw[h2]at h4;cases h4;cases h5),h3⟩)
  ?assign ?body ?done ?stop
 case assign=>
  rintro lq pre z W K ⟨⟨M,h1,h2,h3⟩,h4,h5,h6⟩ hK
  gi_wp2
  refine hK _ _ ((KeepsOthers.alloc _ _).from _) ⟨by simp,fun k R _=>Oz _ _ _ (by omega)⟩ ⟨⟨M,h1.keep (aG (Ov _ _) _),h2,h3⟩,h4.alloc _,qT h5 (by omega) _,by simp;omega⟩ ⟨W.heap.size,h6,Bk.new _ _ rfl,rfl⟩
 case body=>
  rintro lq pre z a' W b0-⟨⟨M,h1,h2,h3⟩,h4,h5,h6⟩ ⟨U,b3,hq,rfl⟩ x9;obtain⟨⟨⟨K,V⟩,D⟩,O,x4,x3⟩:=z;have H2:=(show Hid _ from h2);clear h2;obtain⟨st,o1,L,M',e1,e2,e3,y2,x8,b1⟩:=d9.enter (h1.move (w1:=W.drew) rfl) BL BK sT O (aU M (K,V)+D)
  change (Instr.entryStore _ _ (.int .i64 (st:Int)) _).run _ _=_ at e3
  have e0:=d9.look (h1.move (w1:=W.drew) rfl) BL BK sT O;have HN:Hid (∀s,aU M' s=aU ((pre++[⟨((K,V),D),O,x4,x3⟩]:List XI).map (·.1)) s):=fun s=>by
   rw[x8,fD]
   show _=aU (pre.map (·.1)++[((K,V),D)]) s
   rw[kJ]
   by_cases e:(K,V)=s
   ·rw[if_pos e,if_pos e,<-H2.out,e]
   ·rw[if_neg e,if_neg e,H2.out];omega
  have y9: -4611686018427387904<=aU M (K,V)+D/\aU M (K,V)+D<=4611686018427387904:=by
   have h1:=pC (pre.map (·.1)) (K,V);have h2:=Iq pre;rw[<- H2.out]at h1;omega
  clear x8;obtain⟨a8,w6⟩:=y9;generalize hT:aU M (K,V)=T at*;clear hT;have iw:IntKind.i64.wrap (T+D)=T+D:=by rw[IntKind.wrap_i64];omega
  have c0:=h4.cell (i:=0) (v:= .map (some mb)) rfl;obtain⟨q0,q1,_,_⟩:=hq.two;dsimp only at q0 q1;have w7:B3.follows .mixedOrders=true:=by kernel_rfl
  have v2:Hid (KeepsFrom F.heap.size W (setBlock W.drew mb L)/\Kx F.heap.size mb W (setBlock W.drew mb L) /\
    ((∃M:List It,d9 qI thOk (setBlock W.drew mb L) mb M/\(∀s,aU M s=aU ((pre++[⟨((K,V),D),O,x4,x3⟩]:List XI).map (·.1)) s)/\M.length<=(pre++[⟨((K,V),D),O,x4,x3⟩]:List XI).length)/\Bk (setBlock W.drew mb L) (mb+1) #[.map (some mb)] 126/\Nh Y w (setBlock W.drew mb L)/\F.heap.size<=(setBlock W.drew mb L).heap.size)):=by
   have hz:(setBlock W.drew mb L).heap.size=W.heap.size:=vZ W.drew mb L;refine⟨⟨by rw[hz];exact P6 _,fun k o hB R _=>?_⟩,⟨by rw[hz];exact P6 _,fun k _ hm=>?_⟩,⟨M',y2,HN.out,by simp;omega⟩,?_,mL h5.drew (by omega),by rw[hz];exact h6⟩
   ·rw[iO (by omega)];exact R
   ·rw[iO hm];rfl
   ·unfold Bk;rw[iO (by omega)];exact h4
  clear HN y2 h1 h4 hq
  gi_wp2
  gi_region_with_o (fail)
  all_goals gi_wp2
  all_goals exact v2.out
 case done=>
  rintro D xs W hD hS ⟨⟨M,h1,h2,h3⟩,h4,h5,h6⟩ hK;have c0:=h4.cell (i:=0) (v:= .map (some mb)) rfl;have x9:=(P2.1 hK).1;have a6:xs.length<=400:=by
   have h1:=congrArg oJ hS;simp at h1;omega
  have HE:Hid (aP cO M=aP cO (cX l x y)):=by
   show _=_
   refine vJ eI fun s=>?_;rw[h2 s,hS]
  clear h2 hS
  gi_wp2
  refine⟨trivial,?_⟩;refine P5 (qA.2 (zS mb M W h1 (by omega))) ?_;rintro e W3 ⟨o3,rfl,Z,y1⟩;have O3:Hid (bZ W3 W.heap.size o3 (aP cO M)):=Z;have y3:W3.heap[D]?=some (.deferred (some [])):=by rw[y1.block D x9];exact hK
  have z9:Nh Y w W3:=h5.trans (y1.mono (by omega));clear Z
  gi_wp2
  refine⟨by simp,.inl ⟨_,_,rfl,run_takeDeferred y3,?_⟩⟩;refine⟨_,results_tmp rfl _ _ _,o3,rfl,?_,?_⟩
  ·rw[HF.out,<-HE.out];refine bQ (B:=W.heap.size) ?_ (by omega);refine dF O3.out fun q e=>?_;have:=oB O3.out q e;exact (sI W3 D (.deferred none)).block q (oT O3.out q e) (fun e=>by cases e;omega)
  ·rw[z6];exact z9.trans (belowK_b (w:=F) (by omega) W3 D _ _ hD y3 rfl rfl)
 case stop=>
  rintro D c pre W _ _ h _;exact h.elim
theorem GG (v:rN)(l:List Rw)(x y:Int)(w:oO)(h:Rs w v l):
  sG B3 41 #[v,tv x y] w fun e M=>∃o:rN,e=.returned o/\bZ M w.heap.size o (bL l x y)/\Nh w.heap.size w M:=by
 have S:Bk (w.alloc (.cells #[.int .i64 x,.int .i64 y] 32)) w.heap.size #[.int .i64 x,.int .i64 y] 32:=Bk.new _ _ rfl;have H:=aG (Ov w.heap.size w) (.cells #[.int .i64 x,.int .i64 y] 32);have h0:=h.keep H;cases I:aR l
 ·have HF:Hid (bL l x y=[]):=CL I;go_enter Lx,EJ;go_wp2_with fail;refine (iR I h0).mono ?_;rintro e w1 ⟨rfl,F⟩;have s:=aH H F;go_wp2_with fail;go_ret;refine⟨_,rfl,?_,s⟩;rw[HF.out];exact oN _ _ _ _ _
 cases G:bH x y
 ·have HF:Hid (bL l x y=[]):=CY G;go_enter Lx,EJ;go_wp2_with fail;refine (iR I h0).mono ?_;rintro e w1 ⟨rfl,F⟩;have s:=aH H F;obtain⟨Y,U,_,_⟩:=(S.keep F).two;go_wp2_with fail;refine (wF G _).mono ?_;rintro e T ⟨rfl,O⟩;have L:=aH s O;go_wp2_with fail;go_ret;refine⟨_,rfl,?_,L⟩;rw[HF.out];exact oN _ _ _ _ _
 obtain⟨a,R,rfl,-,-,-,-⟩:=Rs.open h;exact qA.1 (Ib a R l x y w h I G)
end Go.Proofs.YtbdpcngcbnoioaaGreatDoor
