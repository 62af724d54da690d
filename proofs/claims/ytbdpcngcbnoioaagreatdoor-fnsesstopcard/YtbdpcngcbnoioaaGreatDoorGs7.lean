import Derived.Test.YtbdpcngcbnoioaaGreatDoorGs2
import Derived.RangeFuncNested
import Derived.RangeFuncBound
import Derived.RangeFuncCalls
import Derived.RangeFuncLeaves
import Derived.Shelf.Abstract
import Derived.Shelf.RegionOpen
import Derived.WalkKit
import Derived.OwnWalkIn
import Derived.TacticsInMore
import Derived.LoopNIn
import Derived.LoopIn
set_option maxRecDepth 100000
set_option maxHeartbeats 8000000
namespace Go.Proofs.YtbdpcngcbnoioaaGreatDoor
open Go.RowKit
open _root_.List renaming map_append->fM,take_length->fQ,map_cons->gD,mem_map->gM,length_filter_le->gQ,flatMap_append->gX,append_toArray->iM,filter_append->iP,size_toArray->jB,push_toArray->jO,length_cons->mO,cons_append->nA,nil_append->nB,length_nil->nT,length->nX
open Go renaming World->oU,callsIn_wide->oW,Value->pU,CallsIn->qV,Calls->sD,step_append_lies->tJ,grownBy_putObj'->tK,Oper->tL,wpQuiet_nil->tM,Fence->tN
open Go.Proofs.Tryz renaming prog->xU,underlying126->xV,ntmps66->AP,ntmps41->AW,func66->C5,func41->Df,func176->E8
open Go.RowKit renaming Below->Fj
open Go.RowKit.Below renaming refl->Fl,heap_alloc->Ih
open Go.World renaming cell?_of_block->JK
open _root_.Array renaming getElem?_eq_some_iff->M1,replicate_zero->Nk,replicate_succ->Qz
open Go.CallsIn renaming mono->RW
open _root_.Nat renaming le_refl->Re,reduceSub->Rg,reduceAdd->Rh,le_trans->Ri
open Go.Fence renaming wide->Rk
variable {A B D K V b x y:Int}{N k mb:Nat}{r:Bool}
def pS (r:It):Rw:=((r.1,(0,0)),r.2)
def vH (r:Rw):It:=(r.1.1,r.2)
theorem Qq (l:List It)(s:Int×Int):aK (l.map pS) (s,(0,0))=aK l s:=by
 induction l with
 | nil=>rfl
 | cons r l ih=>
  simp only[gD,aK,ih]
  congr 1
  simp[pS]
theorem Pm {l:List Rw}(h:∀r∈l,r.1.2=(0,0))(s:Int×Int):aK (l.map vH) s=aK l (s,(0,0)):=by
 induction l with
 | nil=>rfl
 | cons r l ih=>
  simp only[gD,aK,ih (fun q hq=>h q (by simp[hq]))]
  congr 1
  have h1:=h r (by simp);have:(r.1=(s,((0:Int),(0:Int))))↔r.1.1=s:=by
   constructor
   ·intro e;rw[e]
   ·intro e;exact Prod.ext e h1
  by_cases e:r.1.1=s
  ·rw[if_pos (show (vH r).1=s from e),if_pos (this.2 e)];rfl
  ·rw[if_neg (show ¬(vH r).1=s from e),if_neg (fun h=>e (this.1 h))]
theorem Am {l:List It}{r:Rw}(h:r∈aO aW (l.map pS)):r.1.2=(0,0):=by
 obtain⟨h1,h2⟩:=(CY fG (kN fG _) (pP aW _) r).1 h;rw[lJ fG]at h2;refine Classical.byContradiction fun hn=>h1 ?_;rw[<- h2];refine iS fun q hq e=>hn ?_;obtain⟨x,_,rfl⟩:=gM.1 hq;rw[<- e];rfl
theorem Lj (l:List It):(aO aW (l.map pS)).map vH=aO bJ l:=by
 refine n8 cQ ?_ ?_ ?_
 ·unfold kF;rw[List.pairwise_map];have h0:=kN fG (l.map pS);unfold kF at h0;refine List.Pairwise.imp_of_mem ?_ h0;intro p q hp hq h;have H:=Am hp;have G:=Am hq;rw[aW,H,G]at h
  show bJ p.1.1 q.1.1=true
  simpa[bJ]using h
 ·intro r hr;obtain⟨q,hq,rfl⟩:=gM.1 hr;exact pP aW _ q hq
 ·intro s;rw[Pm (fun r hr=>Am hr),lJ fG,Qq]
theorem Qn (l:List It):aJ (l.map pS)=aJ l:=by
 induction l with
 | nil=>rfl
 | cons r l ih=>simp only[gD,aJ,ih];rfl
theorem Pb {l:List It}(h:l[k]?=some ((K,V),D)):(l.take (k+1)).map pS=(l.take k).map pS++[(((K,V),(0,0)),D)]:=by
 rw[fK h,fM];rfl
theorem OU {l:List Rw}(h:l[k]?=some (((K,V),(A,B)),D)):(l.take (k+1)).map vH=(l.take k).map vH++[((K,V),D)]:=by
 rw[fK h,fM];rfl
section
variable {ops:Array tL}{o:tL}{a:Act}{Kk:Act->oU->Prop}{Q:Exit->Act->oU->Prop}{E:Prop}
theorem JU (w:oU)(U:o.guard=none)(s x:Operand)(ho:o.op=.call { callee:= .builtin .append,args:=#[s,x],argTypes:=#[28,28] })
  (G:Nat) (v:pU) (l:List Rw) (hs:a.eval s=v) (M:aC w G v l) (O:Nat) (K V A B D:Int) (hx:a.eval x=.slice (some ⟨O,0,none⟩) 1 1)
  (Y:Bk w O #[.int .i64 K,.int .i64 V,.int .i64 A,.int .i64 B,.int .i64 D] 55) (hl:l.length<=2000000) (L:G<=w.heap.size)
  (h:∀g I H,aC H G (.slice (some ⟨g,0,none⟩) (l.length+1) I) (l++[(((K,V),(A,B)),D)])->w.grownBy H v.ownBlock->g<H.heap.size->Kk (a.put o.dst (.slice (some ⟨g,0,none⟩) (l.length+1) I)) H):
  if Region.wanted o (yielded ops a.tmps)=true then tL.wp xU o a w Kk Q else E:=by
 obtain⟨i0,hi,T,S,R⟩:=info_parts rU;refine tJ w U s x 28 ho G 55 i0 _ 5 40 Tryz.underlying28 hi T S R rfl (by decide) v l.length (l.flatMap iE) hs M ⟨O,0,none⟩ 1 1 (iE (((K,V),(A,B)),D)) hx rfl (oJ Y) (BZ _) (by omega) (by unfold maxLen;omega) (by omega) L w.heap.size rfl ?_;intro g I H h1 h2 _ h4;refine h g I H ?_ h2 h4
 show H.ownsRow _ _ _ _ _ _
 rw[gX];simpa using h1
theorem JT (w:oU)(U:o.guard=none)(s x:Operand)(ho:o.op=.call { callee:= .builtin .append,args:=#[s,x],argTypes:=#[35,35] })
  (G:Nat) (v:pU) (l:List It) (hs:a.eval s=v) (M:aQ w G v l) (O:Nat) (K V D:Int) (hx:a.eval x=.slice (some ⟨O,0,none⟩) 1 1)
  (Y:Bk w O #[.int .i64 K,.int .i64 V,.int .i64 D] 98) (hl:l.length<=2000000) (L:G<=w.heap.size)
  (h:∀g I H,aQ H G (.slice (some ⟨g,0,none⟩) (l.length+1) I) (l++[((K,V),D)])->w.grownBy H v.ownBlock->g<H.heap.size->Kk (a.put o.dst (.slice (some ⟨g,0,none⟩) (l.length+1) I)) H):
  if Region.wanted o (yielded ops a.tmps)=true then tL.wp xU o a w Kk Q else E:=by
 obtain⟨i0,hi,T,S,R⟩:=info_parts BG;refine tJ w U s x 35 ho G 98 i0 _ 3 24 Tryz.underlying35 hi T S R rfl (by decide) v l.length (l.flatMap nQ) hs M ⟨O,0,none⟩ 1 1 (nQ ((K,V),D)) hx rfl (oJ Y) (J8 _) (by omega) (by unfold maxLen;omega) (by omega) L w.heap.size rfl ?_;intro g I H h1 h2 _ h4;refine h g I H ?_ h2 h4
 show H.ownsRow _ _ _ _ _ _
 rw[gX];simpa using h1
end
theorem A7 (v:pU)(l:List It)(w:oU)(h:Is w v l)(hl:l.length<=1000000)(ha:aJ l<=2305843009213693952):
  sD xU 134 #[v] w fun e I=>∃o:pU,e=.returned o/\aQ I w.heap.size o (aO bJ l)/\Fj w.heap.size w I:=by
 have o0:=lT w rfl;have x7:=aH (Fl w.heap.size w) (.cells #[] 55);have HE:Hid ((aO aW (l.map pS)).map vH=aO bJ l):=Lj l;have v3:=Qn l;have v2:(l.map pS).length=l.length:=by simp
 have v4:=gP aW (l.map pS);obtain⟨a,v9,rfl,hc,hm,hn,U⟩:=Is.open h;unfold maxLen at hm;have HC:=(show Hid _ from U);clear U h;go_enter Tryz.func134,Tryz.ntmps134;go_wp2_with fail
 go_loopw [3,4] (fun o i wr=>∃k:Nat,k<=l.length/\i=.int .i64 k/\aC wr w.heap.size o ((l.take k).map pS)/\Fj w.heap.size w wr) (fun _ i _=>l.length-(intOf i).toNat)
 case atStart=>exact⟨0,by omega,rfl,o0,x7⟩
 case round=>
  clear o0 x7;obtain⟨k,y6,rfl,H,s⟩:=hrel;have T:Hid (aC wr w.heap.size u3 ((l.take k).map pS)):=H;clear H
  by_cases x2:k<l.length
  ·obtain⟨g,off,K,V,D,rfl,hg,hr,c0,c1,c2⟩:=HC.out k x2;have HZ:=(show Hid _ from Pb hr);have d0:=cB s c0;have d1:=cB s c1;have d2:=cB s c2;have hL:((l.take k).map pS).length<=1000000:=by simp;omega
   have M:aC wr w.heap.size u3 ((l.take k).map pS):=T.out;have y3:=s.size;have C0:=(show Hid _ from c0);have C1:=(show Hid _ from c1);have C2:=(show Hid _ from c2);clear c0 c1 c2 hr T;generalize (l.take k).map pS=L at*;have S:Hid (∀W,Fj w.heap.size w W->W.cell? ⟨g,off+k*3,none⟩=some (.int .i64 K)/\W.cell? ⟨g,off+k*3+1,none⟩=some (.int .i64 V)/\W.cell? ⟨g,off+k*3+2,none⟩=some (.int .i64 D)):=
    fun W hW=>⟨cB hW C0.out,cB hW C1.out,cB hW C2.out⟩
   clear C0 C1 C2;go_wp2_with fail
   go_region_held3 (fun I=>I.cell? ⟨g,off+k*3,none⟩=some (.int .i64 K)/\I.cell? ⟨g,off+k*3+1,none⟩=some (.int .i64 V)/\I.cell? ⟨g,off+k*3+2,none⟩=some (.int .i64 D))
    (first|exact S.out _ s.drew|exact S.out _ (aH s _).drew|exact S.out _ (aH s.drew _)|exact S.out _ Y)
    (first
     | (refine JU _ (by rfl) _ _ (by rfl) w.heap.size _ L (by rfl) ((M.alloc _).drew) _ K V 0 0 D (by rfl) ((Bk.new _ _ rfl).drew) (by omega) (by simp;omega) ?_;intro g7 x9 w7 Z R y5;have Y:Fj w.heap.size w w7:=Below.aU (aH s _).drew R (by simp;omega) (bU M)))
   go_wp2_with fail;go_roundw
   case rel=>
    refine⟨k+1,by omega,by go_num,?_,Y⟩;rw[HZ.out];exact Z
   case measure=>simp[intOf];omega
  ·obtain rfl:k=l.length:=by omega
   have M:Hid (aC wr w.heap.size u3 (l.map pS)):=by have:=T.out;rw[fQ]at this;exact this
   have R1:Rs wr u3 (l.map pS):=aC.rs M.out (by omega);have y3:=s.size;clear T HC;go_wp2_with fail;refine (kY _ (l.map pS) _ R1 (by omega) (by omega)).mono ?_;rintro e G ⟨o2,rfl,x1,x4⟩;have v6:=x4.size;have x3:=aG s x4;have R2:=aC.rs x1 (by omega);clear x1 M R1 s x4;obtain⟨a2,v0,rfl,v8,y4,v7,O⟩:=Rs.open R2;unfold maxLen at y4;have z1:=(show Hid _ from O);have oI:=jX G rfl;have y7:=aH x3 (.cells #[] 98);clear O R2;generalize aO aW (l.map pS)=sm at*;go_wp2_with fail
   go_loopw [6,7] (fun o i wr=>∃k:Nat,k<=sm.length/\i=.int .i64 k/\aQ wr G.heap.size o ((sm.take k).map vH)/\Fj G.heap.size G wr) (fun _ i _=>sm.length-(intOf i).toNat)
   case atStart=>exact⟨0,by omega,rfl,oI,aH (Fl _ _) _⟩
   case round=>
    clear oI y7;obtain⟨k,y6,rfl,H,s⟩:=hrel;have T:Hid (aQ wr G.heap.size u6 ((sm.take k).map vH)):=H;clear H
    by_cases x2:k<sm.length
    ·obtain⟨g,off,K,V,A,B,D,rfl,hg,hr,c0,c1,c2,c3,c4⟩:=z1.out k x2;have HZ:=(show Hid _ from OU hr);have d0:=cB s c0;have d1:=cB s c1;have d4:=cB s c4;have hL:((sm.take k).map vH).length<=1000000:=by simp;omega
     have M:aQ wr G.heap.size u6 ((sm.take k).map vH):=T.out;have v5:=s.size;have C0:=(show Hid _ from c0);have C1:=(show Hid _ from c1);have C4:=(show Hid _ from c4);clear c0 c1 c2 c3 c4 hr T;generalize (sm.take k).map vH=L at*;have S:Hid (∀W,Fj G.heap.size G W->W.cell? ⟨g,off+k*5,none⟩=some (.int .i64 K)/\W.cell? ⟨g,off+k*5+1,none⟩=some (.int .i64 V)/\W.cell? ⟨g,off+k*5+4,none⟩=some (.int .i64 D)):=
      fun W hW=>⟨cB hW C0.out,cB hW C1.out,cB hW C4.out⟩
     clear C0 C1 C4;go_wp2_with fail
     go_region_held3 (fun I=>I.cell? ⟨g,off+k*5,none⟩=some (.int .i64 K)/\I.cell? ⟨g,off+k*5+1,none⟩=some (.int .i64 V)/\I.cell? ⟨g,off+k*5+4,none⟩=some (.int .i64 D))
      (first|exact S.out _ s.drew|exact S.out _ (aH s _).drew|exact S.out _ (aH s.drew _)|exact S.out _ Y)
      (first
       | (refine JT _ (by rfl) _ _ (by rfl) G.heap.size _ L (by rfl) ((M.alloc _).drew) _ K V D (by rfl) ((Bk.new _ _ rfl).drew) (by omega) (by simp;omega) ?_;intro g7 x9 w7 Z R y5;have Y:Fj G.heap.size G w7:=Below.aU (aH s _).drew R (by simp;omega) (bU M)))
     go_wp2_with fail;go_roundw
     case rel=>
      refine⟨k+1,by omega,by go_num,?_,Y⟩;rw[HZ.out];exact Z
     case measure=>simp[intOf];omega
    ·obtain rfl:k=sm.length:=by omega
     have M:Hid (aQ wr G.heap.size u6 (sm.map vH)):=by have:=T.out;rw[fQ]at this;exact this
     clear T;go_wp2_with fail;go_ret;refine⟨_,rfl,?_,aG x3 s⟩;rw[<- HE.out];exact cW M.out (by omega)
theorem DM {l:List Rw}(h:aZ l=false):aM l x y=[]:=by simp[aM,h]
theorem DN {l:List Rw}(h:bM x y=false):aM l x y=[]:=by simp[aM,h]
theorem eV {l:List Rw}(h:aZ l=true)(s:bM x y=true):aM l x y=aO bJ (c9 l x y):=by simp[aM,h,s]
theorem qG (l:List Rw)(x y:Int):(c9 l x y).length<=l.length:=by
 unfold c9;rw[List.length_map];exact gQ _ _
theorem qZ (l:List Rw)(x y:Int):(aM l x y).length<=400:=by
 unfold aM
 split
 ·rename_i h;simp at h;have h1:=i6 h.1;have h2:=qG l x y;have h3:=gP bJ (c9 l x y);omega
 ·simp
theorem Br {l:List Rw}(h:l[k]?=some (((K,V),(A,B)),D))(hl:cX A B x y=true):c9 (l.take (k+1)) x y=c9 (l.take k) x y++[((K,V),D)]:=by
 unfold c9;rw[fK h,iP,fM];simp[hl]
theorem ER {l:List Rw}(h:l[k]?=some (((K,V),(A,B)),D))(hl:cX A B x y=false):c9 (l.take (k+1)) x y=c9 (l.take k) x y:=by
 unfold c9;rw[fK h,iP,fM];simp[hl]
theorem Hb {l:List Rw}:aJ (c9 l x y)<=aJ l:=by
 unfold c9
 induction l with
 | nil=>simp[aJ]
 | cons r l ih=>
  rw[List.filter_cons]
  split
  ·simp only[gD,aJ];omega
  ·simp only[aJ];omega
theorem mA {a:Int}(h:bM a b=r)(w:oU):sD xU 65 #[tv a b] w fun e s=>e=.returned (.bool r)/\Fj w.heap.size w s:=by
 rw[<- h];exact fZ a b w
theorem sG {B:Nat}{a w:oU}(h:Fj B a w)(G:B<=w.heap.size)(o:Obj):Fj B a (w.alloc o):=
 h.trans ⟨rfl,rfl,rfl,by simp,fun k s=>Ih _ _ _ (by omega)⟩
theorem Bg (v:pU)(l:List Rw)(x y:Int)(w:oU)(h:Rs w v l):
  sD xU 66 #[v,tv x y] w fun e w'=>∃o:pU,e=.returned o/\aQ w' w.heap.size o (aM l x y)/\Fj w.heap.size w w':=by
 have U:Bk ((w.alloc (.cells #[.int .i64 x,.int .i64 y] 32)).alloc (.cells #[] 98)) w.heap.size #[.int .i64 x,.int .i64 y] 32:=(Bk.new _ _ rfl).alloc _;have T:=aH (aH (Fl w.heap.size w) (.cells #[.int .i64 x,.int .i64 y] 32)) (.cells #[] 98);have Y:aQ ((w.alloc (.cells #[.int .i64 x,.int .i64 y] 32)).alloc (.cells #[] 98)) w.heap.size (.slice (some ⟨w.heap.size+1,0,none⟩) 0 0) []:=cW (jX (w.alloc (.cells #[.int .i64 x,.int .i64 y] 32)) (B:=w.heap.size+1) (by simp)) (by omega);have h0:=h.keep T;cases Z:aZ l
 ·have HF:Hid (aM l x y=[]):=DM Z;go_enter C5,AP;go_wp2_with fail;refine (sR Z h0).mono ?_;rintro e w1 ⟨rfl,G⟩;have O1:Hid (aQ w1 w.heap.size (.slice (some ⟨w.heap.size+1,0,none⟩) 0 0) []):=cC Y G;clear Y U;go_wp2_with fail;go_ret;refine⟨_,rfl,?_,aG T G⟩;rw[HF.out];exact O1.out
 cases x2:bM x y
 ·have HF:Hid (aM l x y=[]):=DN x2;go_enter C5,AP;go_wp2_with fail;refine (sR Z h0).mono ?_;rintro e w1 ⟨rfl,G⟩;have R:=aG T G;have O1:Hid (aQ w1 w.heap.size (.slice (some ⟨w.heap.size+1,0,none⟩) 0 0) []):=cC Y G;obtain⟨t0,t1,_,_⟩:=(U.keep G).two;clear Y U;go_wp2_with fail;refine (mA x2 _).mono ?_;rintro e w2 ⟨rfl,M⟩;have O2:Hid (aQ w2 w.heap.size (.slice (some ⟨w.heap.size+1,0,none⟩) 0 0) []):=cC O1.out M;go_wp2_with fail;go_ret;refine⟨_,rfl,?_,aG R M⟩;rw[HF.out];exact O2.out
 have HF:Hid (aM l x y=aO bJ (c9 l x y)):=eV Z x2;have ha:=mF Z;have a3:=Hb (l:=l) (x:=x) (y:=y);have hl:=i6 Z;have a6:=qG l x y;have Y:=jX (w.alloc (.cells #[.int .i64 x,.int .i64 y] 32)) (B:=w.heap.size+1) (by simp);have w4:((w.alloc (.cells #[.int .i64 x,.int .i64 y] 32)).alloc (.cells #[] 98)).heap.size=w.heap.size+1+1:=by simp
 obtain⟨a,a7,rfl,hc,hm,hn,S⟩:=Rs.open h;unfold maxLen at hm;have HC:=(show Hid _ from S);clear h S;go_enter C5,AP;go_wp2_with fail;generalize ((w.alloc (.cells #[.int .i64 x,.int .i64 y] 32)).alloc (.cells #[] 98))=w0 at*;refine (sR Z h0).mono ?_;rintro e w1 ⟨rfl,G⟩;have R:=aG T G;have o1:=cC Y G;have y6:=U.keep G;have a2:=G.size;obtain⟨t0,t1,_,_⟩:=y6.two;clear Y U T G h0;go_wp2_with fail;refine (mA x2 _).mono ?_;rintro e w2 ⟨rfl,M⟩;have y2:=aG R M;have o2:=cC o1 M;have z4:=y6.keep M;have a1:=M.size;clear o1 y6 R M t0 t1;generalize y0:w.heap.size=H at*;go_wp2_with fail
 go_loopw [5,6] (fun o i wr=>∃k:Nat,k<=l.length/\i=.int .i64 k/\aQ wr (H+1) o (c9 (l.take k) x y)/\Bk wr H #[.int .i64 x,.int .i64 y] 32/\H+1<=wr.heap.size/\Fj H w wr) (fun _ i _=>l.length-(intOf i).toNat)
 case atStart=>exact⟨0,by omega,rfl,o2,z4,by omega,y2⟩
 case round=>
  clear o2 z4 y2;obtain⟨k,a5,rfl,y1,bt,a0,hb⟩:=hrel;have HO:Hid (aQ wr (H+1) u5 (c9 (l.take k) x y)):=y1;clear y1
  by_cases v4:k<l.length
  ·obtain⟨g,off,K,V,A,B,D,rfl,hg,hr,c0,c1,c2,c3,c4⟩:=HC.out k v4;have HR:=(show Hid _ from hr);have y3:Fj w.heap.size w wr:=by rw[y0];exact hb
   have d2:∀p:eC wr,p.ww.cell? ⟨g,off+k*5+2,none⟩=some (.int .i64 A):=fun p=>cB p.below (cB y3 c2);have d3:∀p:eC wr,p.ww.cell? ⟨g,off+k*5+3,none⟩=some (.int .i64 B):=fun p=>cB p.below (cB y3 c3);have t0:=bt.de;have t1:=bt.dc;have hne:=lG wr;have HX:Hid (∀W,Fj H w W->W.cell? ⟨g,off+k*5,none⟩=some (.int .i64 K)/\W.cell? ⟨g,off+k*5+1,none⟩=some (.int .i64 V)/\W.cell? ⟨g,off+k*5+4,none⟩=some (.int .i64 D)):=
    fun W hW=>by rw[<- y0]at hW;exact⟨cB hW c0,cB hW c1,cB hW c4⟩
   have hL:(c9 (l.take k) x y).length<=400:=by have:=qG (l.take k) x y;simp at this;omega
   have ik:((k:Int)<(l.length:Int)):=by omega
   clear c0 c1 c2 c3 c4 hr y3;cases hp:cX A B x y
   ·have HZ:Hid (c9 (l.take (k+1)) x y=c9 (l.take k) x y):=ER HR.out hp;go_wp2_with fail
    (refine lF (by kernel_rfl) (by kernel_rfl) ?_;(repeat (go_big_quiet_step ((first|(go_at_call 129;exact jS (jD (by with_reducible assumption) _))))));refine tM ?_)
    intro w3 s
    replace s:=kU s
    have I:=hb.trans (s.mono (by omega));have v3:=s.size;have y5:=bt.keep s;have O3:Hid (aQ w3 (H+1) u5 (c9 (l.take k) x y)):=cC HO.out s;clear HO bt d2 d3 t0 t1 hne;go_wp2_with fail;go_roundw
    case rel=>exact⟨k+1,by omega,by go_num,by rw[HZ.out];exact O3.out,y5,by omega,I⟩
    case measure=>simp[intOf];omega
   ·have HZ:Hid (c9 (l.take (k+1)) x y=c9 (l.take k) x y++[((K,V),D)]):=Br HR.out hp;go_wp2_with fail
    (refine lF (by kernel_rfl) (by kernel_rfl) ?_;(repeat (go_big_quiet_step ((first|(go_at_call 129;exact jS (jD (by with_reducible assumption) _))))));refine tM ?_)
    intro w3 s
    replace s:=kU s
    have I:=hb.trans (s.mono (by omega));have v3:=s.size;have y5:=bt.keep s;have O3:aQ w3 (H+1) u5 (c9 (l.take k) x y):=cC HO.out s;obtain⟨x0,x1,x4⟩:=HX.out w3 I;have z3:H<=w3.heap.size:=by omega
    clear HO bt d2 d3 t0 t1 hne hb s;generalize c9 (l.take k) x y=L at*;go_wp2_with fail
    go_region_held3 (fun w'=>w'.cell? ⟨g,off+k*5,none⟩=some (.int .i64 K)/\w'.cell? ⟨g,off+k*5+1,none⟩=some (.int .i64 V)/\w'.cell? ⟨g,off+k*5+4,none⟩=some (.int .i64 D))
     (first|exact HX.out _ I.drew|exact HX.out _ (sG I z3 _).drew|exact HX.out _ z1)
     (first
      | (refine JT _ (by rfl) _ _ (by rfl) (H+1) _ L (by rfl) ((O3.alloc _).drew) _ K V D (by rfl) ((Bk.new _ _ rfl).drew) (by omega) (by simp;omega) ?_;intro g7 w5 w7 z5 O a4;have z1:Fj H w w7:=Below.aU (sG I z3 _).drew O (by simp;omega) (fun q e=>Nat.le_of_succ_le (bU O3 q e))))
    have v7:=Bk.aU ((y5.alloc _).drew) O (fun q e=>by have:=bU O3 q e;omega);have v2:H+1<=w7.heap.size:=by have:=O.size;simp at this;omega
    go_wp2_with fail;go_roundw
    case rel=>
     refine⟨k+1,by omega,by go_num,?_,v7,v2,z1⟩;rw[HZ.out];exact z5
    case measure=>simp[intOf];omega
  ·obtain rfl:k=l.length:=by omega
   have O1:Hid (aQ wr (H+1) u5 (c9 l x y)):=by have:=HO.out;rw[fQ]at this;exact this
   have R1:Is wr u5 (c9 l x y):=aQ.is O1.out (by omega);clear HO;go_wp2_with fail;refine (A7 _ (c9 l x y) _ R1 (by omega) (by omega)).mono ?_;rintro e w3 ⟨o3,rfl,x9,I⟩;have O3:Hid (aQ w3 wr.heap.size o3 (aO bJ (c9 l x y))):=x9;clear x9;go_wp2_with fail;go_ret;refine⟨_,rfl,?_,by rw[y0];exact hb.trans (I.mono (by omega))⟩;rw[HF.out];exact cW O3.out (by omega)
open Go.ChangeMaps (setBlock)
theorem uY (b:Nat)(M:List It)(w:oU)(S:bG gC thOk w b M)(v7:M.length<=1000000):
  sD xU 107 #[.map (some b)] w fun e w'=>∃o:pU,e=.returned o/\aQ w' w.heap.size o (aO bJ M)/\Fj w.heap.size w w':=by
 have v3:=S.lt;go_enter Tryz.func107,Tryz.ntmps107
 go_wp2_with (at_range;refine GK _ rfl _ _ rfl _ _ xV _ M rfl S ?_;intro w0 s x8 z0)
 go_frame
 clear S
 go_loopw [3] (fun o wr=>∃(done left L:List It),eL gC thOk wr b w.heap.size M left/\M.Perm (done++left)/\L.Perm (done.filter fun r=>decide (r.2≠0))/\aQ wr (w.heap.size+1) o L/\w.heap.size+1<=wr.heap.size/\Fj w.heap.size w wr) (fun _ wr=>wW wr b w.heap.size)
 case atStart=>exact⟨[],M,[],s,by simp,by simp,oN _ _ _ _ _,by omega,x8⟩
 case round=>
  clear s x8 z0;obtain⟨done,left,L,s,x1,x2,x3,y6,hb⟩:=hrel;have G:=(show Hid _ from x1);have H:=(show Hid _ from x2);have HO:Hid (aQ wr (w.heap.size+1) u3 L):=x3;have y1:=s.count;have v8:L.length<=M.length:=by
   have h1:=x2.length_eq;have h2:=gQ (fun r:It=>decide (r.2≠0)) done;have h3:=x1.length_eq;simp at h3;omega
  have hM:=(show Hid _ from s.nodup);clear x1 x2 x3
  go_wp2_with (at_next;refine IK _ rfl _ rfl _ _ M left rfl s ?_ ?_)
  ·intro hz;subst hz;have O:aQ wr (w.heap.size+1) u3 L:=HO.out;have U:L.Perm (M.filter fun r=>decide (r.2≠0)):=by
    have h1:=G.out;rw[List.append_nil]at h1;exact H.out.trans (h1.filter _).symm
   have HD:=(show Hid _ from U);clear U HO G H y1;have z1:L.length<=2097152:=by omega
   go_wp2_with fail;refine (LQ O z1 y6).mono ?_;rintro e w2 ⟨rfl,l',hp,Z,Y,z5⟩;have y0:l'=aO bJ M:=collected cQ hM.out (fun _=>rfl) HD.out hp Z;have z3:Fj w.heap.size w w2:=hb.trans (z5.mono (by omega));have O2:Hid (aQ w2 (w.heap.size+1) u3 l'):=Y;clear Y hp Z O;go_wp2_with fail;go_ret;refine⟨_,rfl,?_,z3⟩;rw[<- y0];exact cW O2.out (by omega)
  ·intro K V D T w1 hp R v6 hx y8 v5;have O:aQ w1 (w.heap.size+1) u3 L:=AD HO.out hx (fun q e=>by have:=bU HO.out q e;omega);have x7:Fj w.heap.size w w1:=hx.below hb hb.size (by omega);have z9:w.heap.size+1<=w1.heap.size:=by omega
   have z7:=R.count;clear hx s hb HO y8
   by_cases hD:D=0
   ·subst hD;have HZ:=(show Hid _ from Au G.out hp H.out rfl);have x0:=R.keep (aH (Fl _ w1) (.cells #[.int .i64 K,.int .i64 V] 131));have O2:Hid (aQ (w1.alloc (.cells #[.int .i64 K,.int .i64 V] 131)) (w.heap.size+1) u3 L):=O.alloc _;clear O G H hp;go_wp2_with fail;go_roundw
    case rel=>exact⟨_,T,L,x0,HZ.out.1,HZ.out.2,O2.out,by simp;omega,aH x7 _⟩
    case measure=>rw[x0.count];omega
   ·have nD:(D==0)=false:=by simpa using hD
    have HZ:=(show Hid _ from zZ G.out hp H.out hD);clear G H hp
    go_wp2_with (at_builtin;refine uU _ rfl _ _ rfl (w.heap.size+1) _ _ rfl ((O.alloc _).alloc _) _ _ _ _ rfl (Bk.new _ _ (by simp)) (by omega) (by simp;omega) ?_;intro g3 v1 w3 x9 I v4)
    have h9:=(R.keep (aH (aH (Fl _ w1) (.cells #[.int .i64 K,.int .i64 V] 131)) (.cells #[.int .i64 K,.int .i64 V,.int .i64 D] 98))).aU I (fun q e=>by have:=bU O q e;omega);have z4:Fj w.heap.size w w3:=Below.aU (aH (aH x7 _) _) I (by simp;omega) (fun q e=>by have:=bU O q e;omega);have y7:w.heap.size+1<=w3.heap.size:=by have:=I.size;simp at this;omega
    go_roundw
    case rel=>exact⟨_,T,L++[((K,V),D)],h9,HZ.out.1,HZ.out.2,x9,y7,z4⟩
    case measure=>rw[h9.count];omega
open Go.Shelf
open Go.ChangeMaps (setBlock)
attribute [local go_sem] tL.semAt_some
structure Kx (N mb:Nat)(W W':oU):Prop where
 size:W.heap.size<=W'.heap.size
 block:∀k,k<N->k≠mb->W'.heap[k]?=W.heap[k]?
theorem Kx.refl (N mb:Nat)(W:oU):Kx N mb W W:=⟨Re _,fun _ _ _=>rfl⟩
theorem Kx.trans {A B C:oU}(h:Kx N mb A B)(k:Kx N mb B C):Kx N mb A C:=⟨Ri h.size k.size,fun i hi hm=>(k.block i hi hm).trans (h.block i hi hm)⟩
abbrev XI:={ x:It // thOk x.1 /\ -99999<=x.2/\x.2<=99999 }
theorem Kx.bk {W W':oU}{c:Array pU}{t:TypeId}(h:Kx N mb W W')(G:Bk W k c t)(s:k<N)(hm:k≠mb):Bk W' k c t:=by
 unfold Bk;rw[h.block k s hm];exact G
theorem Dd (a:Option Addr)(n s:Nat)(x y:Int)(w:oU):
  sD xU 106 #[.slice a n s,tv x y] w fun e G=>e=.returned (.func (.func 176) #[] #[.pointer (some ⟨w.heap.size,0,none⟩),.pointer (some ⟨w.heap.size+1,0,none⟩)])/\G=(w.alloc (.cells #[.slice a n s] 28)).alloc (.cells #[.int .i64 x,.int .i64 y] 32):=by
 go_enter Tryz.func106,Tryz.ntmps106;go_wp2_with fail;go_ret;exact⟨rfl,rfl⟩
theorem A3 {a c d:Int}(h:cX a b c d=r)(w:oU):sD xU 90 #[tv a b,tv c d] w fun e s=>e=.returned (.bool r)/\Fj w.heap.size w s:=by
 rw[<- h];exact yH a b c d w
abbrev Pp (z:XI):Array pU:=#[gC z.1.1,.int .i64 z.1.2]
theorem Lp (lp b1 b2 N mb:Nat)(a:Option Addr)(x1:Nat)(l:List Rw)(x y:Int)(J Jx:List XI->oU->Prop)(w W:oU)
  (hJ:∀pre A B,J pre A->Fj A.heap.size A B->J pre B)
  (hY:∀pre z W,J pre W->pre.length<l.length->YieldAt Rk (3-1) xU lp (Pp z) W fun e W'=>
   (e=.returned (.bool true)/\J (pre++[z]) W'/\Kx N mb W W')\/(e=.returned (.bool false)/\Jx (pre++[z]) W'))
  (hl:l.length<=1000000) (I:∀r∈l,dG r=true) (v6:Rs w (.slice a l.length x1) l) (hB:∀g,g<w.heap.size->g<N/\g≠mb) (L:∀k,k<w.heap.size->W.heap[k]?=w.heap[k]?) (Y:N<=W.heap.size)
  (x6:Bk W b1 #[.slice a l.length x1] 28) (T:Bk W b2 #[.int .i64 x,.int .i64 y] 32) (w1:b2<N) (v9:b2≠mb) (h0:J [] W):
  qV Rk 3 xU 176 #[.func (.yield lp) #[] #[],.pointer (some ⟨b1,0,none⟩),.pointer (some ⟨b2,0,none⟩)] W fun e W'=>(∃v,e=.returned v) /\
   ((∃ys:List XI,ys.map (·.1)=c9 l x y/\J ys W')\/(∃pre,True/\Jx pre W')):=by
 have d0:=x6.cell (i:=0) (v:= .slice a l.length x1) rfl;obtain⟨a',w8,e,hc,hm,hn,O⟩:=Rs.open v6;cases e;unfold maxLen at hm;have HC:=(show Hid _ from O);clear O;refine callsIn_of_wp E8 rfl trivial ?_ rfl;simp only[Tryz.ntmps176,jB,mO,nT,Rh,Rg,Qz,Nk,jO,iM,nB,nA]
 gi_wp2
 gi_loopw [8] (fun i wr=>∃(k:Nat)(pre:List XI),k<=l.length/\i=.int .i64 k/\pre.map (·.1)=c9 (l.take k) x y/\J pre wr/\(∀k,k<w.heap.size->wr.heap[k]?=w.heap[k]?)/\N<=wr.heap.size/\Bk wr b2 #[.int .i64 x,.int .i64 y] 32) (fun i _=>l.length-(intOf i).toNat)
 case atStart=>exact⟨0,[],by omega,rfl,rfl,h0,L,Y,T⟩
 case round=>
  clear d0 h0 L Y T x6;obtain⟨k,pre,a1,rfl,M,h9,L,Y,T⟩:=hrel
  by_cases v4:k<l.length
  ·obtain⟨g,off,K,V,A,B,D,rfl,hg,hr,c0,c1,c2,c3,c4⟩:=HC.out k v4;have HR:=(show Hid _ from hr);have q0:wr.cell? ⟨g,off+k*5,none⟩=some (.int .i64 K):=by rw[JK (w:=w) (L g hg)];exact c0
   have q1:wr.cell? ⟨g,off+k*5+1,none⟩=some (.int .i64 V):=by rw[JK (w:=w) (L g hg)];exact c1
   have q2:wr.cell? ⟨g,off+k*5+2,none⟩=some (.int .i64 A):=by rw[JK (w:=w) (L g hg)];exact c2
   have q3:wr.cell? ⟨g,off+k*5+3,none⟩=some (.int .i64 B):=by rw[JK (w:=w) (L g hg)];exact c3
   have q4:wr.cell? ⟨g,off+k*5+4,none⟩=some (.int .i64 D):=by rw[JK (w:=w) (L g hg)];exact c4
   clear c0 c1 c2 c3 c4 hr;have ik:((k:Int)<(l.length:Int)):=by omega
   have x2:Bk (wr.alloc (.cells #[.int .i64 K,.int .i64 V,.int .i64 A,.int .i64 B,.int .i64 D] 55)) wr.heap.size #[.int .i64 K,.int .i64 V,.int .i64 A,.int .i64 B,.int .i64 D] 55:=Bk.new _ _ rfl;have R:Fj wr.heap.size wr (wr.alloc (.cells #[.int .i64 K,.int .i64 V,.int .i64 A,.int .i64 B,.int .i64 D] 55)):=aH (Fl _ _) _;have H:=T.keep R;obtain⟨t0,t1,_,_⟩:=H.two;cases hp:cX A B x y
   ·have HZ:Hid (c9 (l.take (k+1)) x y=c9 (l.take k) x y):=ER HR.out hp
    gi_wp2
    refine⟨trivial,?_⟩;refine RW (oW.2 (A3 hp _)) ?_;rintro e w3 ⟨rfl,s⟩;have G:=aG R s;have x0:=hJ _ _ _ h9 G;have v2:=G.size;have S:=H.keep s;have Z:∀k,k<w.heap.size->w3.heap[k]?=w.heap[k]?:=fun k I=>by
     have:=(hB k I).1;rw[G.block k (by omega)];exact L k I
    clear H s R t0 t1 x2 q0 q1 q2 q3 q4
    gi_wp2
    refine⟨fun _ h=>(by cases h),?_⟩
    gi_wp2
    go_roundw
    case rel=>exact⟨k+1,pre,by omega,by go_num,by rw[HZ.out];exact M,x0,Z,by omega,S⟩
    case measure=>simp[intOf];omega
   ·have HZ:Hid (c9 (l.take (k+1)) x y=c9 (l.take k) x y++[((K,V),D)]):=Br HR.out hp;have x5:=I _ (List.mem_of_getElem? HR.out);have x4:thOk (K,V) /\ -99999<=D/\D<=99999:=by
     have h1:=zK x5;have h2:=mG x5;exact⟨⟨h1.1,h1.2.1⟩,h2⟩
    have v3:pre.length<l.length:=by
     have h1:=congrArg nX M;have h2:=qG (l.take k) x y;simp at h1 h2;omega
    gi_wp2
    refine⟨trivial,?_⟩;refine RW (oW.2 (A3 hp _)) ?_;rintro e w3 ⟨rfl,s⟩;have G:=aG R s;have x0:=hJ _ _ _ h9 G;have v2:=G.size;have S:=H.keep s;have Z:∀k,k<w.heap.size->w3.heap[k]?=w.heap[k]?:=fun k I=>by
     have:=(hB k I).1;rw[G.block k (by omega)];exact L k I
    have x7:=x2.keep s;obtain⟨y0,y1,y2,y3,y4⟩:=x7.ag;obtain⟨fn,tmps,assign,body,hy,hR⟩:=hY pre ⟨((K,V),D),x4⟩ w3 x0 v3;clear H s R t0 t1 x2 q0 q1 q2 q3 q4 x7
    gi_wp2
    refine hR.mono ?_;rintro e W3 (⟨rfl,v7,U⟩|⟨rfl,y5⟩)
    ·have x8:=U.bk S w1 v9;have a0:=U.size;have v5:∀k,k<w.heap.size->W3.heap[k]?=w.heap[k]?:=fun k I=>by
      have:=hB k I;rw[U.block k this.1 this.2];exact Z k I
     clear hR hy
     gi_wp2
     go_roundw
     case rel=>exact⟨k+1,pre++[⟨((K,V),D),x4⟩],by omega,by go_num,by rw[HZ.out,fM,M];rfl,v7,v5,by omega,x8⟩
     case measure=>simp[intOf];omega
    ·clear hR hy
     gi_wp2
     refine bodyPost_ret (results_none rfl _ _ _) rfl ?_;exact⟨⟨_,rfl⟩,.inr ⟨_,trivial,y5⟩⟩
  ·obtain rfl:k=l.length:=by omega
   gi_wp2
   go_end0
   exact⟨⟨_,rfl⟩,.inl ⟨pre,by rw[M,fQ],h9⟩⟩
theorem A1 {A B:oU}(h:Fj A.heap.size A B):A.grownBy B none:=⟨h.os,h.tape,h.output,h.size,fun k s _=>h.block k s⟩
theorem AM (M I mb:Nat)(a:Option Addr)(G:Nat)(l:List Rw)(x y:Int)(w w0:oU)(hl:l.length<=1000000)(H:∀r∈l,dG r=true)(R:Rs w (.slice a l.length G) l)(S:∀g,g<w.heap.size->g<w0.heap.size/\g≠mb)(hW:∀k,k<w.heap.size->w0.heap[k]?=w.heap[k]?)
  (O:Bk w0 M #[.slice a l.length G] 28) (L:Bk w0 I #[.int .i64 x,.int .i64 y] 32) (T:I≠mb):
  SeqStopsK Rk 3 xU 176 #[.pointer (some ⟨M,0,none⟩),.pointer (some ⟨I,0,none⟩)] Pp (Kx w0.heap.size mb) (fun U=>U.map (·.1)=c9 l x y) (fun _=>True) l.length w0:=
 fun Y J Jx W s hJ _ hY h0=>
  Lp Y M I w0.heap.size mb a G l x y J Jx w W (fun pre A B h Z=>hJ pre A B none h (A1 Z) (fun r e=>by cases e)) hY hl H R S
   (fun k H=>by rw[s.block k (S k H).1];exact hW k H) s.size (O.keep s) (L.keep s) L.lt T h0
open Go.ChangeMaps (setBlock)
attribute [local go_sem] tL.semAt_some
theorem m9 {a:Int}(h:bM a b=r)(w:oU):sD xU 67 #[tv a b] w fun e s=>e=.returned (.bool r)/\Fj w.heap.size w s:=by
 rw[<- h];exact gW a b w
theorem Kx.put (W:oU)(l:Nat)(o s:Obj)(H:N<=l)(h:W.heap[l]?=some o):Kx N mb W (W.putObj l s):=by
 have hg:=tK W l s;exact⟨hg.size,fun k G _=>hg.block k (by have:=(M1.1 h).1;omega) (fun e=>by cases e;omega)⟩
theorem bG.grown {G:Type}{I:G->pU}{H:G->Prop}{w w1:oU}{b:Nat}{M:List (G×Int)}{s:Option Nat}(h:bG I H w b M)(hg:w.grownBy w1 s)(hr:∀r,s=some r->b<r):bG I H w1 b M:=
 h.move (hg.block b h.lt (fun e=>by have:=hr b e.symm;omega))
theorem fU {W:oU}{b:Nat}{o:Obj}(h:k≠b):(setBlock W b o).heap[k]?=W.heap[k]?:=by
 simp only[setBlock,Array.getElem?_setIfInBounds];rw[if_neg (Ne.symm h)]
theorem Lv (pre:List XI):aJ (pre.map (·.1))<=99999*(pre.length:Int):=by
 have:=mP (l:=pre.map (·.1)) (c:=99999) (fun r hr=>by
  obtain⟨z,_,rfl⟩:=gM.1 hr;exact z.2.2)
 simpa using this
theorem KR (a:Option Addr)(I:Nat)(l:List Rw)(x y:Int)(w:oU)(h:Rs w (.slice a l.length I) l)(S:aZ l=true)(y1:bM x y=true):
  qV Rk 4 xU 41 #[.slice a l.length I,tv x y] w fun e w'=>∃o:pU,e=.returned o/\aQ w' w.heap.size o (aM l x y)/\Fj w.heap.size w w':=by
 have y7:Bk (w.alloc (.cells #[.int .i64 x,.int .i64 y] 32)) w.heap.size #[.int .i64 x,.int .i64 y] 32:=Bk.new _ _ rfl;have x3:=aH (Fl w.heap.size w) (.cells #[.int .i64 x,.int .i64 y] 32);have h0:=h.keep x3;have HF:Hid (aM l x y=aO bJ (c9 l x y)):=eV S y1;have hl:=i6 S;have b8:=qG l x y;have v2:=@run_makeMap xU;have HH:Hid (Rs w (.slice a l.length I) l):=h;clear h;refine callsIn_of_wp_marks Df rfl trivial ?_ rfl;simp only[AW,jB,mO,nT,Rh,Rg,Qz,Nk,jO,iM,nB,nA]
 gi_wp2
 refine⟨trivial,?_⟩;refine RW (oW.2 (iR S h0)) ?_;rintro e w1 ⟨rfl,x2⟩;have x0:=aG x3 x2;have x7:=y7.keep x2;obtain⟨t0,t1,_,_⟩:=x7.two;clear h0 y7 x3 x2
 gi_wp2
 refine⟨trivial,?_⟩;refine RW (oW.2 (m9 y1 _)) ?_;rintro e H ⟨rfl,x1⟩;have U:=aG x0 x1;have x6:=x7.keep x1;obtain⟨t2,t3,_,_⟩:=x6.two;have v1:=U.size;clear t0 t1 x7 x0 x1;have b2:=x6.lt;generalize v0:w.heap.size=Z at*
 gi_wp2
 refine⟨trivial,?_⟩;refine RW (oW.2 (Dd _ _ _ _ _ _)) ?_;rintro e G ⟨rfl,L⟩;have m0:bG gC thOk G H.heap.size []:=by
  rw[L];exact (((bG.new H rfl).keep (aH (Fl _ _) _)).keep (aH (Fl _ _) _)).keep (aH (Fl _ _) _)
 have v4:Bk G (H.heap.size+1) #[.map (some H.heap.size)] 126:=by
  rw[L];exact ((Bk.new (w:=H.alloc (.map #[] 0)) _ _ (by simp)).alloc _).alloc _
 have v6:Bk G (H.heap.size+1+1) #[.slice a l.length I] 28:=by
  rw[L];exact (Bk.new (w:=(H.alloc (.map #[] 0)).alloc _) _ _ (by simp)).alloc _
 have v5:Bk G (H.heap.size+1+1+1) #[.int .i64 x,.int .i64 y] 32:=by
  rw[L];exact Bk.new (w:=((H.alloc (.map #[] 0)).alloc _).alloc _) _ _ (by simp)
 have b4:G.heap.size=H.heap.size+1+1+1+1:=by rw[L];simp
 have y5:Fj H.heap.size H G:=by
  rw[L];exact aH (aH (aH (aH (Fl _ _) _) _) _) _
 clear L v2;have y6:Fj Z w G:=U.trans (y5.mono v1)
 gi_wp2
 clear y5 U x6 t2 t3;generalize H.heap.size=mb at*;refine wpIn_rangeFunc_ownH (n:=4) (w0:=G) rfl (by omega) (gf:=176) (lb:=#[.pointer (some ⟨mb+1+1,0,none⟩),.pointer (some ⟨mb+1+1+1,0,none⟩)]) rfl trivial (enters_of E8 (by kernel_rfl) rfl)
  (AM (mb+1+1) (mb+1+1+1) mb a I l x y w G (by omega) (fun r hr=>eZ S hr) HH.out (fun g hg=>⟨by omega,by omega⟩) (fun k S=>y6.block k (by omega)) v6 v5 (by omega))
  (fun h k=>h.trans k) (fun W lq o o' hN ho _ _=>Kx.put W lq o o' hN ho) (Fl _ _) (fun _=>rfl)
  (fun pre W=>(∃M:List It,bG gC thOk W mb M/\(∀s,aK M s=aK (pre.map (·.1)) s)/\M.length<=pre.length)/\Bk W (mb+1) #[.map (some mb)] 126/\Fj Z w W/\G.heap.size<=W.heap.size)
  (fun _ _ _=>False)
  (fun pre A B z8 hs hg hr=>by
   obtain⟨⟨M,h1,h2,h3⟩,h4,h5,h6⟩:=hs;refine⟨⟨M,h1.grown hg (fun r e=>by have:=(hr r e).1;omega),h2,h3⟩,Bk.aU h4 hg (fun r e=>by have:=(hr r e).1;omega),Below.aU h5 hg (by have:=h4.lt;omega) (fun r e=>by have:=(hr r e).1;omega),Ri h6 hg.size⟩)
  (fun _ _ _ _ _ hs _ _=>hs)
  ⟨⟨[],m0,fun s=>rfl,by simp⟩,v4,y6,Re _⟩
  (fun z a' W=>∃Y,G.heap.size<=Y/\Bk W Y #[.int .i64 z.1.1.1,.int .i64 z.1.1.2] 131/\a'={ tmps:=#[.slice a l.length I,tv x y,undef,.pointer (some ⟨Z,0,none⟩),.slice none 0 0,.pointer (some ⟨mb+1,0,none⟩),.pointer (some ⟨Y,0,none⟩),.int .i64 z.1.2,.slice a l.length I,.bool true,.bool false,.bool false,tv x y,.bool true,.bool false,.bool false,.map (some mb),.slice a l.length I,tv x y,.func (.func 176) #[] #[.pointer (some ⟨mb+1+1,0,none⟩),.pointer (some ⟨mb+1+1+1,0,none⟩)],gC z.1.1,.int .i64 z.1.2,undef,undef,undef,undef,undef,undef,undef,undef,undef],defers:=[] })
  (fun z a' _ A B z8 hs hg hr=>by
   obtain⟨Y,h1,h2,h3⟩:=hs;exact⟨Y,h1,Bk.aU h2 hg (fun r e=>by
    obtain⟨_,o,h4,h5⟩:=hr r e;rintro rfl;unfold Bk at h2;rw[h2]at h4;cases h4;cases h5),h3⟩)
  ?assign ?body ?done ?stop
 case assign=>
  rintro lq pre z W K ⟨⟨M,h1,h2,h3⟩,h4,h5,h6⟩ hK
  gi_wp2
  refine hK _ _ ((KeepsOthers.alloc _ _).from _) ⟨by simp,fun k S _=>Ih _ _ _ (by omega)⟩ ⟨⟨M,h1.keep (aH (Fl _ _) _),h2,h3⟩,h4.alloc _,sG h5 (by omega) _,by simp;omega⟩ ⟨W.heap.size,h6,Bk.new _ _ rfl,rfl⟩
 case body=>
  rintro lq pre z a' W b6-⟨⟨M,h1,h2,h3⟩,h4,h5,h6⟩ ⟨Y,b9,hq,rfl⟩ y0;obtain⟨⟨⟨K,V⟩,D⟩,R,x5,x4⟩:=z;have H2:=(show Hid _ from h2);clear h2;obtain⟨st,o1,O,M',e1,e2,e3,y3,x9,b7⟩:=bG.enter (h1.move (w1:=W.drew) rfl) j6 xV iL R (aK M (K,V)+D)
  change (Instr.entryStore _ _ (.int .i64 (st:Int)) _).run _ _=_ at e3
  have e0:=bG.look (h1.move (w1:=W.drew) rfl) j6 xV iL R;have HN:Hid (∀s,aK M' s=aK ((pre++[⟨((K,V),D),R,x5,x4⟩]:List XI).map (·.1)) s):=fun s=>by
   rw[x9,fM]
   show _=aK (pre.map (·.1)++[((K,V),D)]) s
   rw[eG]
   by_cases e:(K,V)=s
   ·rw[if_pos e,if_pos e,<-H2.out,e]
   ·rw[if_neg e,if_neg e,H2.out];omega
  have z1: -4611686018427387904<=aK M (K,V)+D/\aK M (K,V)+D<=4611686018427387904:=by
   have h1:=iT (pre.map (·.1)) (K,V);have h2:=Lv pre;rw[<- H2.out]at h1;omega
  clear x9;obtain⟨b5,a3⟩:=z1;generalize hT:aK M (K,V)=T at*;clear hT;have iw:IntKind.i64.wrap (T+D)=T+D:=by rw[IntKind.wrap_i64];omega
  have c0:=h4.cell (i:=0) (v:= .map (some mb)) rfl;obtain⟨q0,q1,_,_⟩:=hq.two;dsimp only at q0 q1;have a4:xU.follows .mixedOrders=true:=by kernel_rfl
  have v9:Hid (KeepsFrom G.heap.size W (setBlock W.drew mb O)/\Kx G.heap.size mb W (setBlock W.drew mb O) /\
    ((∃M:List It,bG gC thOk (setBlock W.drew mb O) mb M/\(∀s,aK M s=aK ((pre++[⟨((K,V),D),R,x5,x4⟩]:List XI).map (·.1)) s)/\M.length<=(pre++[⟨((K,V),D),R,x5,x4⟩]:List XI).length)/\Bk (setBlock W.drew mb O) (mb+1) #[.map (some mb)] 126/\Fj Z w (setBlock W.drew mb O)/\G.heap.size<=(setBlock W.drew mb O).heap.size)):=by
   have hz:(setBlock W.drew mb O).heap.size=W.heap.size:=oO W.drew mb O;refine⟨⟨by rw[hz];exact Re _,fun k o hB S _=>?_⟩,⟨by rw[hz];exact Re _,fun k _ hm=>?_⟩,⟨M',y3,HN.out,by simp;omega⟩,?_,eR h5.drew (by omega),by rw[hz];exact h6⟩
   ·rw[fU (by omega)];exact S
   ·rw[fU hm];rfl
   ·unfold Bk;rw[fU (by omega)];exact h4
  clear HN y3 h1 h4 hq
  gi_wp2
  gi_region_with_o (fail)
  all_goals gi_wp2
  all_goals exact v9.out
 case done=>
  rintro D xs W hD hS ⟨⟨M,h1,h2,h3⟩,h4,h5,h6⟩ hK;have c0:=h4.cell (i:=0) (v:= .map (some mb)) rfl;have y0:=(M1.1 hK).1;have b3:xs.length<=400:=by
   have h1:=congrArg nX hS;simp at h1;omega
  have HE:Hid (aO bJ M=aO bJ (c9 l x y)):=by
   show _=_
   refine lD cQ fun s=>?_;rw[h2 s,hS]
  clear h2 hS
  gi_wp2
  refine⟨trivial,?_⟩;refine RW (oW.2 (uY mb M W h1 (by omega))) ?_;rintro e W3 ⟨o3,rfl,h9,y2⟩;have O3:Hid (aQ W3 W.heap.size o3 (aO bJ M)):=h9;have y4:W3.heap[D]?=some (.deferred (some [])):=by rw[y2.block D y0];exact hK
  have v3:Fj Z w W3:=h5.trans (y2.mono (by omega));clear h9
  gi_wp2
  refine⟨by simp,.inl ⟨_,_,rfl,run_takeDeferred y4,?_⟩⟩;refine⟨_,results_tmp rfl _ _ _,o3,rfl,?_,?_⟩
  ·rw[HF.out,<-HE.out];refine cW (B:=W.heap.size) ?_ (by omega);refine fB O3.out fun q e=>?_;have:=bU O3.out q e;exact (tK W3 D (.deferred none)).block q (oT O3.out q e) (fun e=>by cases e;omega)
  ·rw[v0];exact v3.trans (belowK_b (w:=G) (by omega) W3 D _ _ hD y4 rfl rfl)
 case stop=>
  rintro D c pre W _ _ h _;exact h.elim
theorem wO (v:pU)(l:List Rw)(x y:Int)(w:oU)(h:Rs w v l):
  sD xU 41 #[v,tv x y] w fun e O=>∃o:pU,e=.returned o/\aQ O w.heap.size o (aM l x y)/\Fj w.heap.size w O:=by
 have T:Bk (w.alloc (.cells #[.int .i64 x,.int .i64 y] 32)) w.heap.size #[.int .i64 x,.int .i64 y] 32:=Bk.new _ _ rfl;have I:=aH (Fl w.heap.size w) (.cells #[.int .i64 x,.int .i64 y] 32);have h0:=h.keep I;cases L:aZ l
 ·have HF:Hid (aM l x y=[]):=DM L;go_enter Df,AW;go_wp2_with fail;refine (iR L h0).mono ?_;rintro e w1 ⟨rfl,G⟩;have s:=aG I G;go_wp2_with fail;go_ret;refine⟨_,rfl,?_,s⟩;rw[HF.out];exact oN _ _ _ _ _
 cases H:bM x y
 ·have HF:Hid (aM l x y=[]):=DN H;go_enter Df,AW;go_wp2_with fail;refine (iR L h0).mono ?_;rintro e w1 ⟨rfl,G⟩;have s:=aG I G;obtain⟨Z,Y,_,_⟩:=(T.keep G).two;go_wp2_with fail;refine (m9 H _).mono ?_;rintro e U ⟨rfl,R⟩;have M:=aG s R;go_wp2_with fail;go_ret;refine⟨_,rfl,?_,M⟩;rw[HF.out];exact oN _ _ _ _ _
 obtain⟨a,S,rfl,-,-,-,-⟩:=Rs.open h;exact oW.1 (KR a S l x y w h L H)
end Go.Proofs.YtbdpcngcbnoioaaGreatDoor
