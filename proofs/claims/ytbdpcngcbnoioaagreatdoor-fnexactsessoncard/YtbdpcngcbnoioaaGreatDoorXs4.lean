import Derived.Test.YtbdpcngcbnoioaaGreatDoorAn7
import Derived.Test.YtbdpcngcbnoioaaGreatDoorZe2
import Derived.Test.YtbdpcngcbnoioaaGreatDoorGlk
import Derived.Test.YtbdpcngcbnoioaaGreatDoorXs0
import Derived.Test.YtbdpcngcbnoioaaGreatDoorAn9
set_option maxRecDepth 100000
set_option maxHeartbeats 4000000
namespace Go.Proofs.YtbdpcngcbnoioaaGreatDoor
open Go.RowKit Go.Shelf
def RT.upto (t:RT):Nat->Nat
 | 0=>0
 | k+1=>t.upto k+(t.f k).nds
theorem RT.nds_eq (t:RT):t.nds=t.m+t.upto t.m:=by
 rcases t with _|⟨k,n,m,f⟩
 ·rfl
 have h:∀ j,((List.range j).map fun i=>(f i).nds).sum=RT.upto (.mk k n m f) j:=by
  intro j
  induction j with
  | zero=>rfl
  | succ j ih=>rw [List.range_succ,List.map_append,List.sum_append,ih];simp [RT.upto,RT.f]
 show m+_=m+_
 rw [h];rfl
theorem RT.upto_le (t:RT) {j k:Nat} (h:j<=k):t.upto j<=t.upto k:=by
 induction k with
 | zero =>
  obtain rfl:j=0:=by omega
  exact Nat.le_refl _
 | succ k ih =>
  rcases Nat.lt_or_ge k j with h1|h1
  ·obtain rfl:j=k+1:=by omega
   exact Nat.le_refl _
  ·have:=ih h1
   show _<=t.upto k+_
   omega
def szN (left:Int) (n:Nat):Int:=if left<n then -1 else left-n
abbrev LeftPost (left:Int) (n:Nat) (w:World) (e:Ending) (w':World):Prop:=e= .returned (.int .i64 (szN left n))/\Below w.heap.size w w'
theorem szPlanS_rstep {t:RT} {B:Nat} {s:Value} {w:World} {left:Int} (h0:0<=left) (h1:left<=1048576) (hs:RdS B w t s)
  (hrec:∀ i,i<t.m->∀ (W:World) (u:Value) (l:Int),0<=l->l<=1048576->RdS B W (t.f i) u->Calls Tryz.prog 108 #[pl (t.f i).k (t.f i).n u, .int .i64 l] W (LeftPost l (t.f i).nds W)) :
  Calls Tryz.prog 178 #[s, .int .i64 left] w (LeftPost left t.nds w):=by
 have HR:=(show Hid _ from hrec);have HS:=(show Hid (RdS B w t s) from hs);obtain ⟨a,c,rfl,hm1,hm2⟩:=hs.sl;have htl:t.m<=9223372036854775807:=by unfold maxLen at hm2;omega
 have hnd:=t.nds_eq;have HU:=(show Hid _ from fun (j:Nat) (h:j<=t.m)=>t.upto_le h);clear hs hrec hm1 hm2
 by_cases hb:left<(t.m:Int)
 ·have hz:szN left t.nds = -1:=by unfold szN;rw [if_pos (by omega)]
  have e1:left-(t.m:Int)<0:=by omega
  have e2 : -9223372036854775808<=left-(t.m:Int):=by omega
  clear hnd HU;go_enter Tryz.func178,Tryz.ntmps178;go_wp2_with fail;go_ret;exact ⟨by rw [hz]<;>rfl,Below.refl _ _⟩
 ·have e1:¬ (left-(t.m:Int)<0):=by omega
  have HND:=(show Hid (t.nds=t.m+t.upto t.m) from hnd);clear hnd;go_enter Tryz.func178,Tryz.ntmps178;go_wp2_with fail
  go_loopw [1,5] (fun l i wr=>∃ k:Nat,i= .int .i64 k/\k<=t.m/\l= .int .i64 (left-t.m-t.upto k)/\0<=left-t.m-t.upto k/\Below w.heap.size w wr) (fun _ i _=>t.m-(intOf i).toNat)
  case atStart=>exact ⟨0,rfl,Nat.zero_le _,by simp [RT.upto],by simp [RT.upto];omega,Below.refl _ _⟩
  case round =>
   obtain ⟨k,rfl,hkl,rfl,hl0,hb2⟩:=hrel;obtain ⟨l,hl⟩:∃ l:Int,left-t.m-t.upto k=l:=⟨_,rfl⟩;have HL:=(show Hid (left-t.m-t.upto k=l) from hl);rw [hl] at hl0 ⊢;clear hl;have hl1:l<=1048576:=by have:=HL.out;omega
   by_cases hlt:k<t.m
   ·have ik:((k:Int)<(t.m:Int)):=by omega
    obtain ⟨g,off,b2,d2,rfl,hgl,c0,c1,c2,hkid⟩:=(HS.out.keep hb2).at hlt;have HK:=(show Hid _ from HR.out k hlt wr _ l hl0 hl1 hkid);have HU1:=HU.out (k+1) hlt;have HUk:Hid (t.upto (k+1)=t.upto k+(t.f k).nds):=rfl;have HU2:=(show Hid (t.upto (k+1)<=t.upto t.m) from HU1);clear hkid HU1;go_wp2_with fail;refine Calls.mono HK.out ?_;rintro e w7 ⟨rfl,hb7⟩;have hbf:=bSz hb2 hb7;clear c0 c1 c2 HK
    by_cases hq:l<((t.f k).nds:Int)
    ·have hz:szN l (t.f k).nds = -1:=by unfold szN;rw [if_pos hq]
     have hz2:szN left t.nds = -1:=by
      have h3:=HU2.out;have h4:=HUk.out;have h5:=HL.out;have h6:=HND.out;unfold szN;rw [if_pos (by omega)]
     rw [hz];go_wp2_with fail;go_ret;exact ⟨by rw [hz2]<;>rfl,hbf⟩
    ·have hz:szN l (t.f k).nds=l-(t.f k).nds:=by unfold szN;rw [if_neg hq]
     obtain ⟨l2,hl2⟩:∃ l2:Int,l-(t.f k).nds=l2:=⟨_,rfl⟩;have hl3:¬ l2<0:=by omega
     have HL2:Hid (left-t.m-t.upto (k+1)=l2):=by
      show left-t.m-t.upto (k+1)=l2
      have h4:=HUk.out;have h5:=HL.out;omega
     rw [hz,hl2];clear hz hl2 hq;go_wp2_with fail;go_roundw
     case rel=>exact ⟨k+1,by go_num,by omega,by rw [HL2.out],by rw [HL2.out];omega,hbf⟩
     case measure=>simp [intOf];omega
   ·have hke:k=t.m:=by omega
    have ik:¬ ((k:Int)<(t.m:Int)):=by omega
    have hz:szN left t.nds=l:=by
     have h5:=HL.out;have h6:=HND.out;subst hke;unfold szN;rw [if_neg (by omega)];omega
    go_wp2_with fail;go_ret;exact ⟨by rw [hz]<;>rfl,hb2⟩
theorem szPlan_rone {t:RT} {B:Nat} {s:Value} {w:World} {left:Int} (_h0:0<=left) (_h1:left<=1048576) (hs:RdS B w t s)
  (hrec:∀ (W:World),RdS B W t s->Calls Tryz.prog 178 #[s, .int .i64 left] W (LeftPost left t.nds W)) :
  Calls Tryz.prog 108 #[pl t.k t.n s, .int .i64 left] w (LeftPost left t.nds w):=by
 obtain ⟨nd,hnd⟩:∃ nd,t.nds=nd:=⟨_,rfl⟩;rw [hnd] at hrec ⊢;have bA:Bk (w.alloc (.cells #[.int .i64 t.k, .int .i64 t.n,s] 72)) w.heap.size #[.int .i64 t.k, .int .i64 t.n,s] 72:=Bk.new _ _ rfl;have hb0:Below w.heap.size w (w.alloc (.cells #[.int .i64 t.k, .int .i64 t.n,s] 72)):=bAz (Below.refl _ _) _;have HC:=(show Hid _ from hrec _ (hs.keep hb0));obtain ⟨a,c,rfl,_,_⟩:=hs.sl;obtain ⟨x0,x1,x2⟩:=bA.three';clear hs hrec bA hnd;go_enter Tryz.func108,Tryz.ntmps108;go_wp2_with fail;refine Calls.mono HC.out ?_;rintro e w1 ⟨rfl,hb1⟩;have hbf:=bSz hb0 hb1
 by_cases hq:left<(nd:Int)
 ·have hz:szN left nd = -1:=by unfold szN;rw [if_pos hq]
  have HZ:=(show Hid (szN left nd = -1) from hz);rw [hz];clear hz;go_wp2_with fail;go_ret;exact ⟨by rw [HZ.out]<;>rfl,hbf⟩
 ·have hz:szN left nd=left-nd:=by unfold szN;rw [if_neg hq]
  obtain ⟨l2,hl2⟩:∃ l2:Int,left-nd=l2:=⟨_,rfl⟩;have hl3:¬ l2<0:=by omega
  have HZ:=(show Hid (szN left nd=l2) from hz.trans hl2);rw [hz,hl2];clear hz hl2 hq;go_wp2_with fail;go_ret;exact ⟨by rw [HZ.out]<;>rfl,hbf⟩
theorem szPlanS_rt:∀ (t:RT) {B:Nat} {s:Value} {w:World} {left:Int},0<=left->left<=1048576->RdS B w t s->Calls Tryz.prog 178 #[s, .int .i64 left] w (LeftPost left t.nds w)
 | .nil,_,_,_,_,_,_,hs=>hs.elim
 | .mk _ _ _ f,_,_,_,_,h0,h1,hs=>szPlanS_rstep h0 h1 hs fun i _ _ _ _ h2 h3 h=>szPlan_rone (t:=f i) h2 h3 h fun _ h=>szPlanS_rt (f i) h2 h3 h
theorem szPlan_rt (t:RT) {B:Nat} {s:Value} {w:World} {left:Int} (h0:0<=left) (h1:left<=1048576) (hs:RdS B w t s):Calls Tryz.prog 108 #[pl t.k t.n s, .int .i64 left] w (LeftPost left t.nds w) :=
 szPlan_rone h0 h1 hs fun _ h=>szPlanS_rt t h0 h1 h
end Go.Proofs.YtbdpcngcbnoioaaGreatDoor
set_option maxRecDepth 100000
set_option maxHeartbeats 8000000
namespace Go.Proofs.YtbdpcngcbnoioaaGreatDoor
open Go.RowKit Go.Shelf
def RdF (B:Nat) (w:World):RT->Value->Prop
 | .nil,_=>False
 | .mk _ _ m f,s=>∃ (g c:Nat) (cs:Array Value),s= .slice (some ⟨g,0,none⟩) m c/\m<=c/\c<=maxLen/\B<=g/\Bk w g cs 25/\∀ i,i<m->cs[i*3]?=some (.int .i64 (f i).k)/\cs[i*3+1]?=some (.int .i64 (f i).n)/\∃ sx,cs[i*3+2]?=some sx/\RdF B w (f i) sx
theorem RdF.rd {B:Nat} {w:World}:∀ {t:RT} {s:Value},RdF B w t s->RdS B w t s
 | .nil,_,h=>h.elim
 | .mk _ _ _ f,_,⟨g,c,cs,e,h1,h2,hg,hb,h⟩=>⟨_,c,e,h1,h2,fun i hi=>by
  obtain ⟨q0,q1,sx,q2,hx⟩:=h i hi;exact ⟨g,0,sx,rfl,hg,by rw [Nat.zero_add];exact hb.cell q0,by rw [Nat.zero_add];exact hb.cell q1,by rw [Nat.zero_add];exact hb.cell q2,RdF.rd hx⟩⟩
theorem RdF.move {B:Nat} {w w':World} (H:∀ x,B<=x->x<w.heap.size->w'.heap[x]?=w.heap[x]?):∀ {t:RT} {s:Value},RdF B w t s->RdF B w' t s
 | .nil,_,h=>h.elim
 | .mk _ _ _ f,_,⟨g,c,cs,e,h1,h2,hg,hb,h⟩=>⟨g,c,cs,e,h1,h2,hg,by unfold Bk;rw [H g hg hb.lt];exact hb,fun i hi=>by
  obtain ⟨q0,q1,sx,q2,hx⟩:=h i hi;exact ⟨q0,q1,sx,q2,RdF.move H hx⟩⟩
theorem RdF.less {B B':Nat} {w:World} (hB:B'<=B):∀ {t:RT} {s:Value},RdF B w t s->RdF B' w t s
 | .nil,_,h=>h.elim
 | .mk _ _ _ f,_,⟨g,c,cs,e,h1,h2,hg,hb,h⟩=>⟨g,c,cs,e,h1,h2,Nat.le_trans hB hg,hb,fun i hi=>by
  obtain ⟨q0,q1,sx,q2,hx⟩:=h i hi;exact ⟨q0,q1,sx,q2,RdF.less hB hx⟩⟩
def FillR (B:Nat) (wr:World) (t:RT) (c:Array Value) (k:Nat):Prop :=
 ∀ i,i<k->c[i*3]?=some (.int .i64 (t.f i).k)/\c[i*3+1]?=some (.int .i64 (t.f i).n)/\∃ sx,c[i*3+2]?=some sx/\RdF B wr (t.f i) sx
theorem FillR.step {B:Nat} {wr w1:World} {t:RT} {c:Array Value} {k:Nat} {s:Value} (h:FillR B wr t c k) (hm:∀ x,B<=x->x<wr.heap.size->w1.heap[x]?=wr.heap[x]?) (hs:RdF B w1 (t.f k) s) (hc:k*3+2<c.size) :
  FillR B w1 t (((c.setIfInBounds (k*3) (.int .i64 (t.f k).k)).setIfInBounds (k*3+1) (.int .i64 (t.f k).n)).setIfInBounds (k*3+2) s) (k+1):=by
 intro i hi
 rcases Nat.lt_or_ge i k with h1|h1
 ·obtain ⟨e1,e2,sx,e3,hx⟩:=h i h1;refine ⟨?_,?_,sx,?_,hx.move hm⟩
  ·rw [Array.getElem?_setIfInBounds_ne (by omega),Array.getElem?_setIfInBounds_ne (by omega),Array.getElem?_setIfInBounds_ne (by omega)];exact e1
  ·rw [Array.getElem?_setIfInBounds_ne (by omega),Array.getElem?_setIfInBounds_ne (by omega),Array.getElem?_setIfInBounds_ne (by omega)];exact e2
  ·rw [Array.getElem?_setIfInBounds_ne (by omega),Array.getElem?_setIfInBounds_ne (by omega),Array.getElem?_setIfInBounds_ne (by omega)];exact e3
 ·obtain rfl:i=k:=by omega
  refine ⟨?_,?_,s,?_,hs⟩
  ·rw [Array.getElem?_setIfInBounds_ne (by omega),Array.getElem?_setIfInBounds_ne (by omega),Array.getElem?_setIfInBounds_self_of_lt (by omega)]
  ·rw [Array.getElem?_setIfInBounds_ne (by omega),Array.getElem?_setIfInBounds_self_of_lt (by simp;omega)]
  ·rw [Array.getElem?_setIfInBounds_self_of_lt (by simp;omega)]
theorem infoP:(Tryz.prog.info? 25).map (fun i=>(i.zero,i.size,i.bytes))=some (some (.agg #[.int .i64 0, .int .i64 0, .slice none 0 0]),3,40):=by kernel_rfl
theorem make_plans (n:Nat) (hn:n<=2097152):∃ M:Array Value,M.size=n*3/\∀ u:World,(Instr.makeSlice 23 (.int .i64 (n:Int)) (.int .i64 (n:Int))).run Tryz.prog u= .ok (.slice (some ⟨u.heap.size,0,none⟩) n n) (u.alloc (.cells M 25)):=by
 obtain ⟨i0,hi,hz0,hz1,hz2⟩:=pl_info infoP;refine ⟨madeCells (Value.agg #[.int .i64 0, .int .i64 0, .slice none 0 0]).cells (n*i0.size),by rw [size_madeCells,hz1],fun u=>?_⟩;have:=run_make (P:=Tryz.prog) u 23 25 i0 _ Tryz.underlying23 hi hz0 .i64 .i64 (n:Int) (n:Int) (by omega) (by omega) (by rw [hz2];omega) (by omega)
 simpa using this
abbrev MadeRT (t:RT) (w:World) (e:Ending) (w':World):Prop:=∃ b d,e= .returned (.slice b t.m d)/\RdF w.heap.size w' t (.slice b t.m d)/\Below w.heap.size w w'
theorem toPlanS_rstep {t:RT} {B:Nat} {s:Value} {w:World} (hn:t.m<=1048576) (hs:RdS B w t s)
  (hrec:∀ i,i<t.m->∀ (W:World) (u:Value),RdS B W (t.f i) u->Calls Tryz.prog 111 #[pl (t.f i).k (t.f i).n u] W fun e w'=>∃ b d,e= .returned (pl (t.f i).k (t.f i).n (.slice b (t.f i).m d))/\RdF W.heap.size w' (t.f i) (.slice b (t.f i).m d)/\Below W.heap.size W w') :
  Calls Tryz.prog 179 #[s] w (MadeRT t w):=by
 have HR:=(show Hid _ from hrec);have HS:=(show Hid (RdS B w t s) from hs);obtain ⟨a,c,rfl,hm1,hm2⟩:=hs.sl;obtain ⟨M,hM,hmk⟩:=make_plans t.m (by omega);have HM:=(show Hid (M.size=t.m*3) from hM);clear hs hrec hm1 hm2 hM;go_enter Tryz.func179,Tryz.ntmps179;go_wp2_with fail
 go_loopw [4] (fun i wr=>∃ (k:Nat) (c:Array Value),k<=t.m/\i= .int .i64 k/\Bk wr w.heap.size c 25/\c.size=t.m*3/\FillR (w.heap.size+1) wr t c k/\Below w.heap.size w wr) (fun i _=>t.m-(intOf i).toNat)
 case atStart=>exact ⟨0,M,by omega,rfl,Bk.new _ _ rfl,HM.out,fun i hi=>by omega,bAz (Below.refl _ _) _⟩
 case round =>
  obtain ⟨k,c2,hk,rfl,hbk,hcs,hfill,hb⟩:=hrel;have HF:=(show Hid (FillR (w.heap.size+1) wr t c2 k) from hfill);have HC:=(show Hid (c2.size=t.m*3) from hcs);clear hfill hcs
  by_cases hlt:k<t.m
  ·have ik:((k:Int)<(t.m:Int)):=by omega
   obtain ⟨g,off,b2,d2,rfl,hgl,c0,c1,c2',hkid⟩:=(HS.out.keep hb).at hlt;have HK:=(show Hid _ from HR.out k hlt wr _ hkid);have hgw:=hbk.lt;clear hkid;go_wp2_with fail;refine Calls.mono HK.out ?_;rintro e w1 ⟨b3,d3,rfl,hnew,hb1⟩;have HN:=(show Hid (RdF wr.heap.size w1 (t.f k) (.slice b3 (t.f k).m d3)) from hnew);have bk1:=hbk.keep hb1;have hbw:=bSz hb hb1;have hs:=HC.out;obtain ⟨y0,q0⟩:∃ y,w1.cell? ⟨w.heap.size,k*3,none⟩=some y:=⟨_,bk1.cell (Array.getElem?_eq_getElem (show k*3<c2.size by omega))⟩;obtain ⟨y1,q1⟩:∃ y,w1.cell? ⟨w.heap.size,k*3+1,none⟩=some y:=⟨_,bk1.cell (Array.getElem?_eq_getElem (show k*3+1<c2.size by omega))⟩;obtain ⟨y2,q2⟩:∃ y,w1.cell? ⟨w.heap.size,k*3+2,none⟩=some y:=⟨_,bk1.cell (Array.getElem?_eq_getElem (show k*3+2<c2.size by omega))⟩;have f0:=bk1.free (k*3);have f1:=bk1.free (k*3+1);have f2:=bk1.free (k*3+2);clear hs c0 c1 c2' HK hnew;go_wp2_with fail;go_roundw
   case rel =>
    have bk2:=((bk1.set (k*3) (.int .i64 (t.f k).k)).set (k*3+1) (.int .i64 (t.f k).n)).set (k*3+2) (.slice b3 (t.f k).m d3);have hset:∀ x,w.heap.size+1<=x->(((w1.setCell ⟨w.heap.size,k*3,none⟩ (.int .i64 (t.f k).k)).setCell ⟨w.heap.size,k*3+1,none⟩ (.int .i64 (t.f k).n)).setCell ⟨w.heap.size,k*3+2,none⟩ (.slice b3 (t.f k).m d3)).heap[x]?=w1.heap[x]?:=fun x hx=>by
     have hz:x≠w.heap.size:=by omega
     exact ((Below.heap_setCell _ _ _ _ hz).trans (Below.heap_setCell _ _ _ _ hz)).trans (Below.heap_setCell _ _ _ _ hz)
    refine ⟨k+1,_,by omega,by go_num,bk2,?_,FillR.step HF.out (fun x hx hxl=>(hset x hx).trans (hb1.block x hxl)) (RdF.less (by omega) (HN.out.move fun x hx _=>hset x (by omega))) (by have:=HC.out;omega),?_⟩
    ·simpa using HC.out
    ·exact ((hbw.setCell (by simp) _).setCell (by simp) _).setCell (by simp) _
   case measure=>simp [intOf];omega
  ·have hke:k=t.m:=by omega
   subst hke;have ik:¬ ((t.m:Int)<(t.m:Int)):=by omega
   have HX:Hid (RdF w.heap.size wr t (.slice (some ⟨w.heap.size,0,none⟩) t.m t.m)):=by
    have hF:=HF.out;have hS:=HS.out
    rcases t with _|⟨kk,nn,mm,ff⟩
    ·exact hS.elim
    clear hS;refine ⟨_,_,_,rfl,Nat.le_refl _,by unfold maxLen;exact Nat.le_trans hn (by omega),Nat.le_refl _,hbk,fun i hi=>?_⟩;obtain ⟨e1,e2,sx,e3,hx⟩:=hF i hi;exact ⟨e1,e2,sx,e3,RdF.less (by omega) hx⟩
   go_wp2_with fail;go_ret;exact ⟨_,_,rfl,HX.out,hb⟩
end Go.Proofs.YtbdpcngcbnoioaaGreatDoor
set_option maxRecDepth 100000
set_option maxHeartbeats 8000000
namespace Go.Proofs.YtbdpcngcbnoioaaGreatDoor
open Go.RowKit Go.Shelf
theorem toPlan_rone {t:RT} {B:Nat} {s:Value} {w:World} (hs:RdS B w t s)
  (hrec:∀ (W:World),RdS B W t s->Calls Tryz.prog 179 #[s] W (MadeRT t W)) :
  Calls Tryz.prog 111 #[pl t.k t.n s] w fun e w'=>∃ b d,e= .returned (pl t.k t.n (.slice b t.m d))/\RdF w.heap.size w' t (.slice b t.m d)/\Below w.heap.size w w':=by
 have HRC:=(show Hid _ from hrec);have HS:=(show Hid (RdS B w t s) from hs);obtain ⟨a,c,rfl,_,_⟩:=hs.sl;clear hs hrec;go_enter Tryz.func111,Tryz.ntmps111
 go_upto_region 2 with fail
 have bi:Bk (((w.alloc (.cells #[.int .i64 t.k, .int .i64 t.n, .slice a t.m c] 72)).alloc (.cells #[.int .i64 0, .int .i64 0, .slice none 0 0] 25)).alloc (.cells #[.int .i64 0, .int .i64 0, .slice none 0 0] 25)) w.heap.size #[.int .i64 t.k, .int .i64 t.n, .slice a t.m c] 72:=((Bk.new _ _ rfl).alloc _).alloc _;have br:Bk (((w.alloc (.cells #[.int .i64 t.k, .int .i64 t.n, .slice a t.m c] 72)).alloc (.cells #[.int .i64 0, .int .i64 0, .slice none 0 0] 25)).alloc (.cells #[.int .i64 0, .int .i64 0, .slice none 0 0] 25)) (w.heap.size+1) #[.int .i64 0, .int .i64 0, .slice none 0 0] 25:=(Bk.new _ _ (by simp)).alloc _;have bo:Bk (((w.alloc (.cells #[.int .i64 t.k, .int .i64 t.n, .slice a t.m c] 72)).alloc (.cells #[.int .i64 0, .int .i64 0, .slice none 0 0] 25)).alloc (.cells #[.int .i64 0, .int .i64 0, .slice none 0 0] 25)) (w.heap.size+1+1) #[.int .i64 0, .int .i64 0, .slice none 0 0] 25:=Bk.new _ _ (by simp);have hbw:Below w.heap.size w (((w.alloc (.cells #[.int .i64 t.k, .int .i64 t.n, .slice a t.m c] 72)).alloc (.cells #[.int .i64 0, .int .i64 0, .slice none 0 0] 25)).alloc (.cells #[.int .i64 0, .int .i64 0, .slice none 0 0] 25)):=bAz (bAz (bAz (Below.refl _ _) _) _) _;generalize (((w.alloc (.cells #[.int .i64 t.k, .int .i64 t.n, .slice a t.m c] 72)).alloc (.cells #[.int .i64 0, .int .i64 0, .slice none 0 0] 25)).alloc (.cells #[.int .i64 0, .int .i64 0, .slice none 0 0] 25))=w1 at *;generalize hO:w.heap.size+1+1=o at *;generalize hR:w.heap.size+1=r at *;have hro:r≠o:=by omega
 have hor:o≠r:=by omega
 have hwr:w.heap.size<=r:=by omega
 have hwo:w.heap.size<=o:=by omega
 have hio:w.heap.size≠o:=by omega
 have HLT:Hid (r<o):=by show r<o;omega
 clear hO hR;obtain ⟨i0,i1,i2⟩:=bi.three';have bo1:Bk (w1.setCell ⟨o,0,none⟩ (.int .i64 t.k)) o #[.int .i64 t.k, .int .i64 0, .slice none 0 0] 25:=bo.set 0 (.int .i64 t.k);have bo2:Bk ((w1.setCell ⟨o,0,none⟩ (.int .i64 t.k)).setCell ⟨o,1,none⟩ (.int .i64 t.n)) o #[.int .i64 t.k, .int .i64 t.n, .slice none 0 0] 25:=bo1.set 1 (.int .i64 t.n);have br2:=(br.apart (p:=⟨o,0,none⟩) hro (.int .i64 t.k)).apart (p:=⟨o,1,none⟩) hro (.int .i64 t.n);have hb12:Below w.heap.size w ((w1.setCell ⟨o,0,none⟩ (.int .i64 t.k)).setCell ⟨o,1,none⟩ (.int .i64 t.n)):=(hbw.setCell (by exact hwo) _).setCell (by exact hwo) _;have f0:=bo.free 0;have f1:=bo1.free 1;obtain ⟨c0,_,_⟩:=bo.three';obtain ⟨_,c1,_⟩:=bo1.three';obtain ⟨_,i4,_⟩:=(bi.apart (p:=⟨o,0,none⟩) hio (.int .i64 t.k)).three';obtain ⟨_,_,i5⟩:=((bi.apart (p:=⟨o,0,none⟩) hio (.int .i64 t.k)).apart (p:=⟨o,1,none⟩) hio (.int .i64 t.n)).three';have HC:=(show Hid _ from HRC.out _ (HS.out.keep hb12));have HLo:=(show Hid (o<w1.heap.size) from bo.lt);have HB12:=(show Hid _ from hb12);have HBO:=(show Hid (Bk _ _ _ _) from bo2);have HBR:=(show Hid (Bk _ _ _ _) from br2);clear bo1 bo2 br2 br bo bi hb12 hbw;go_wp2_with fail;refine Calls.mono HC.out ?_;rintro e w2 ⟨b,d,rfl,hnew,hb2⟩;have HN:=(show Hid (RdF _ _ _ _) from hnew);have hs1:((w1.setCell ⟨o,0,none⟩ (.int .i64 t.k)).setCell ⟨o,1,none⟩ (.int .i64 t.n)).heap.size=w1.heap.size:=by simp
 have HSZ:=(show Hid (_=_) from hs1);have hbf:=bSz HB12.out hb2;have bo3:=HBO.out.keep hb2;have br3:=HBR.out.keep hb2;clear HC hnew i0 i1 i2 i4 i5 c0 c1 f0 f1 hs1 hb2;obtain ⟨c0,c1,c2⟩:=bo3.three';have f2:=bo3.free 2;have bo4:Bk (w2.setCell ⟨o,2,none⟩ (.slice b t.m d)) o #[.int .i64 t.k, .int .i64 t.n, .slice b t.m d] 25:=bo3.set 2 (.slice b t.m d);have br4:=br3.apart (p:=⟨o,2,none⟩) hro (.slice b t.m d);obtain ⟨x0,x1,x2⟩:=bo4.three';obtain ⟨r0,r1,r2⟩:=br4.three';have g0:=br4.free 0;have g1:=br4.free 1;have g2:=br4.free 2;have br8:Bk ((((w2.setCell ⟨o,2,none⟩ (.slice b t.m d)).setCell ⟨r,0,none⟩ (.int .i64 t.k)).setCell ⟨r,1,none⟩ (.int .i64 t.n)).setCell ⟨r,2,none⟩ (.slice b t.m d)) r #[.int .i64 t.k, .int .i64 t.n, .slice b t.m d] 25:=((br4.set 0 (.int .i64 t.k)).set 1 (.int .i64 t.n)).set 2 (.slice b t.m d);have HFB:Hid (Below w.heap.size w ((((w2.setCell ⟨o,2,none⟩ (.slice b t.m d)).setCell ⟨r,0,none⟩ (.int .i64 t.k)).setCell ⟨r,1,none⟩ (.int .i64 t.n)).setCell ⟨r,2,none⟩ (.slice b t.m d))):=(((hbf.setCell (by exact hwo) _).setCell (by exact hwr) _).setCell (by exact hwr) _).setCell (by exact hwr) _;have HFR:Hid (RdF w.heap.size ((((w2.setCell ⟨o,2,none⟩ (.slice b t.m d)).setCell ⟨r,0,none⟩ (.int .i64 t.k)).setCell ⟨r,1,none⟩ (.int .i64 t.n)).setCell ⟨r,2,none⟩ (.slice b t.m d)) t (.slice b t.m d)):=by
  have h1:=HSZ.out;have h2:=HLo.out;have h3:=HLT.out;refine RdF.less (B:=((w1.setCell ⟨o,0,none⟩ (.int .i64 t.k)).setCell ⟨o,1,none⟩ (.int .i64 t.n)).heap.size) (by omega) (HN.out.move fun x hx _=>?_);have hxo:x≠o:=by omega
  have hxr:x≠r:=by omega
  exact (((Below.heap_setCell _ _ _ _ hxr).trans (Below.heap_setCell _ _ _ _ hxr)).trans (Below.heap_setCell _ _ _ _ hxr)).trans (Below.heap_setCell _ _ _ _ hxo)
 have HY:=(show Hid (Bk _ _ _ _) from br8);clear bo3 br3 bo4 br4 br8 hbf HN;go_wp2_with fail;obtain ⟨y0,y1,y2⟩:=HY.out.three';refine bodyPost_ret (v:=pl t.k t.n (.slice b t.m d)) (by simp [results,Tryz.results111,go_sem,y0,y1,y2]) rfl ?_;exact ⟨b,d,rfl,HFR.out,HFB.out⟩
theorem toPlanS_rt:∀ (t:RT) {B:Nat} {s:Value} {w:World},t.nds<=1048576->RdS B w t s->Calls Tryz.prog 179 #[s] w (MadeRT t w)
 | .nil,_,_,_,_,hs=>hs.elim
 | .mk k n m f,_,_,_,hn,hs=>toPlanS_rstep (by have:=RT.nds_eq (.mk k n m f);omega) hs fun i hi _ _ h=>toPlan_rone (t:=f i) h fun _ h=>toPlanS_rt (f i) (by
  have h1:=RT.nds_eq (.mk k n m f);have h2:=RT.upto_le (.mk k n m f) (show i+1<=m from hi);have h3:RT.upto (.mk k n m f) (i+1)=RT.upto (.mk k n m f) i+(f i).nds:=rfl;have h4:(RT.mk k n m f).m=m:=rfl;rw [h4] at h1;omega) h
theorem toPlan_rtF (t:RT) {B:Nat} {s:Value} {w:World} (hn:t.nds<=1048576) (hs:RdS B w t s) :
  Calls Tryz.prog 111 #[pl t.k t.n s] w fun e w'=>∃ b d,e= .returned (pl t.k t.n (.slice b t.m d))/\RdF w.heap.size w' t (.slice b t.m d)/\Below w.heap.size w w' :=
 toPlan_rone hs fun _ h=>toPlanS_rt t hn h
end Go.Proofs.YtbdpcngcbnoioaaGreatDoor
set_option maxRecDepth 100000
set_option maxHeartbeats 4000000
namespace Go.Proofs.YtbdpcngcbnoioaaGreatDoor
open Go.RowKit Go.Shelf
structure Nx (lo hi:Nat) (w w':World):Prop where
 os:w'.os=w.os
 tape:w'.tape=w.tape
 output:w'.output=w.output
 size:w.heap.size<=w'.heap.size
 block:∀ b,b<w.heap.size->(b<lo\/hi<=b)->w'.heap[b]?=w.heap[b]?
 plan:∀ (g:Nat) (cs:Array Value),Bk w g cs 25->∃ cs':Array Value,Bk w' g cs' 25/\∀ j:Nat,cs'[j]?=cs[j]?\/((∃ x,cs[j]?=some (.int .i64 x))/\∃ y,cs'[j]?=some (.int .i64 y))
theorem Nx.refl (lo hi:Nat) (w:World):Nx lo hi w w:=⟨rfl,rfl,rfl,Nat.le_refl _,fun _ _ _=>rfl,fun _ cs h=>⟨cs,h,fun _=> .inl rfl⟩⟩
theorem Nx.trans {lo hi:Nat} {a b c:World} (h:Nx lo hi a b) (k:Nx lo hi b c):Nx lo hi a c :=
 ⟨k.os.trans h.os,k.tape.trans h.tape,k.output.trans h.output,Nat.le_trans h.size k.size,fun i hi' hg=>(k.block i (Nat.lt_of_lt_of_le hi' h.size) hg).trans (h.block i hi' hg),fun g cs hb=>by
  obtain ⟨cs1,hb1,e1⟩:=h.plan g cs hb;obtain ⟨cs2,hb2,e2⟩:=k.plan g cs1 hb1;refine ⟨cs2,hb2,fun j=>?_⟩
  rcases e1 j with q1|⟨⟨x,q1⟩,y,q2⟩
  ·rcases e2 j with q3|⟨q3,q4⟩
   ·exact .inl (q3.trans q1)
   ·exact .inr ⟨by rw [<- q1];exact q3,q4⟩
  ·rcases e2 j with q3|⟨q3,q4⟩
   ·exact .inr ⟨⟨x,q1⟩,y,q3.trans q2⟩
   ·exact .inr ⟨⟨x,q1⟩,q4⟩⟩
theorem Nx.of_below {lo hi:Nat} {w w':World} (h:Below w.heap.size w w'):Nx lo hi w w' :=
 ⟨h.os,h.tape,h.output,h.size,fun b hb _=>h.block b hb,fun _ cs hb=>⟨cs,hb.keep h,fun _=> .inl rfl⟩⟩
theorem Nx.set {lo hi:Nat} {w:World} {g j:Nat} {cs:Array Value} {x:Int} (hb:Bk w g cs 25) (h1:lo<=g) (h2:g<hi) (hc:cs[j]?=some (.int .i64 x)) (y:Int):Nx lo hi w (w.setCell ⟨g,j,none⟩ (.int .i64 y)):=by
 refine ⟨rfl,rfl,rfl,by simp,fun b _ hn=>Below.heap_setCell _ _ _ _ (fun e=>by have e2:b=g:=e;omega),fun q cq hq=>?_⟩
 by_cases e:q=g
 ·subst e;have:cq=cs:=by unfold Bk at hb hq;rw [hb] at hq;injection hq with hq;injection hq with h;exact h.symm
  subst this;refine ⟨_,hb.set j (.int .i64 y),fun l=>?_⟩
  by_cases e2:l=j
  ·subst e2;exact .inr ⟨⟨x,hc⟩,y,Array.getElem?_setIfInBounds_self_of_lt (Array.getElem?_eq_some_iff.1 hc).1⟩
  ·exact .inl (Array.getElem?_setIfInBounds_ne (fun e3=>e2 e3.symm))
 ·exact ⟨cq,hq.apart (p:=⟨g,j,none⟩) e _,fun _=> .inl rfl⟩
def ShF (lo hi:Nat) (w:World):RT->Value->Prop
 | .nil,_=>False
 | .mk _ _ m f,s=>∃ (g c:Nat) (cs:Array Value),s= .slice (some ⟨g,0,none⟩) m c/\lo<=g/\g<hi/\Bk w g cs 25/\∀ i,i<m->(∃ x,cs[i*3]?=some (.int .i64 x))/\(∃ y,cs[i*3+1]?=some (.int .i64 y))/\∃ b d,cs[i*3+2]?=some (.slice b (f i).m d)/\ShF lo hi w (f i) (.slice b (f i).m d)
theorem RdF.sl {B:Nat} {w:World}:∀ {t:RT} {s:Value},RdF B w t s->∃ b d,s= .slice b t.m d
 | .nil,_,h=>h.elim
 | .mk _ _ _ _,_,⟨_,_,_,e,_⟩=>⟨_,_,e⟩
theorem RdF.form {B:Nat} {w:World}:∀ {t:RT} {s:Value},RdF B w t s->ShF B w.heap.size w t s
 | .nil,_,h=>h.elim
 | .mk _ _ _ f,_,⟨g,c,cs,e,_,_,hg,hb,h⟩=>⟨g,c,cs,e,hg,hb.lt,hb,fun i hi=>by
  obtain ⟨q0,q1,sx,q2,hx⟩:=h i hi;obtain ⟨b,d,e2⟩:=hx.sl;subst e2;exact ⟨⟨_,q0⟩,⟨_,q1⟩,b,d,q2,RdF.form hx⟩⟩
theorem ShF.num {lo hi lo' hi':Nat} {w w':World} (H:Nx lo' hi' w w'):∀ {t:RT} {s:Value},ShF lo hi w t s->ShF lo hi w' t s
 | .nil,_,h=>h.elim
 | .mk _ _ _ f,_,⟨g,c,cs,e,h1,h2,hb,h⟩=>by
  obtain ⟨cs',hb',hj⟩:=H.plan g cs hb;refine ⟨g,c,cs',e,h1,h2,hb',fun i hi=>?_⟩;obtain ⟨⟨x,q0⟩,⟨y,q1⟩,b,d,q2,hx⟩:=h i hi;refine ⟨?_,?_,b,d,?_,ShF.num H hx⟩
  ·rcases hj (i*3) with e1|⟨_,e1⟩
   ·exact ⟨x,e1.trans q0⟩
   ·exact e1
  ·rcases hj (i*3+1) with e1|⟨_,e1⟩
   ·exact ⟨y,e1.trans q1⟩
   ·exact e1
  ·rcases hj (i*3+2) with e1|⟨⟨x',e1⟩,_⟩
   ·exact e1.trans q2
   ·rw [q2] at e1;cases e1
theorem ShF.less {lo lo' hi:Nat} {w:World} (hl:lo'<=lo):∀ {t:RT} {s:Value},ShF lo hi w t s->ShF lo' hi w t s
 | .nil,_,h=>h.elim
 | .mk _ _ _ f,_,⟨g,c,cs,e,h1,h2,hb,h⟩=>⟨g,c,cs,e,Nat.le_trans hl h1,h2,hb,fun i hi'=>by
  obtain ⟨q0,q1,b,d,q2,hx⟩:=h i hi';exact ⟨q0,q1,b,d,q2,ShF.less hl hx⟩⟩
theorem ShF.sl {lo hi:Nat} {w:World}:∀ {t:RT} {s:Value},ShF lo hi w t s->∃ g c,s= .slice (some ⟨g,0,none⟩) t.m c
 | .nil,_,h=>h.elim
 | .mk _ _ _ _,_,⟨_,_,_,e,_⟩=>⟨_,_,e⟩
theorem ShF.at {lo hi:Nat} {w:World} {t:RT} {g n c:Nat} (h:ShF lo hi w t (.slice (some ⟨g,0,none⟩) n c)) {i:Nat} (hi':i<t.m) :
  ∃ (cs:Array Value) (x y:Int) (b:Option Addr) (d:Nat),lo<=g/\g<hi/\Bk w g cs 25/\cs[i*3]?=some (.int .i64 x)/\cs[i*3+1]?=some (.int .i64 y)/\cs[i*3+2]?=some (.slice b (t.f i).m d)/\ShF lo hi w (t.f i) (.slice b (t.f i).m d):=by
 rcases t with _|⟨k,n',m,f⟩
 ·exact h.elim
 obtain ⟨g',c',cs,e,h1,h2,hb,hx⟩:=h;cases e;obtain ⟨⟨x,q0⟩,⟨y,q1⟩,b,d,q2,hk⟩:=hx i hi';exact ⟨cs,x,y,b,d,h1,h2,hb,q0,q1,q2,hk⟩
theorem set2_at {cs:Array Value} {j:Nat} {v1:Value} (a b:Value) (h1:cs[j+1]?=some v1) :
  (cs.setIfInBounds j a)[j+1]?=some v1/\((cs.setIfInBounds j a).setIfInBounds (j+1) b)[j+2]?=cs[j+2]?:=by
 refine ⟨?_,?_⟩
 ·rw [Array.getElem?_setIfInBounds_ne (by omega)];exact h1
 ·rw [Array.getElem?_setIfInBounds_ne (by omega),Array.getElem?_setIfInBounds_ne (by omega)]
abbrev NumPost (lo hi k n:Nat) (w:World) (e:Ending) (w':World):Prop:=e= .returned (.int .i64 ((k+2*n:Nat):Int))/\Nx lo hi w w'
theorem markS_rstep {t:RT} {lo hi:Nat} {s:Value} {w:World} {k:Nat} (hs:ShF lo hi w t s) (hk:k+2*t.nds<=4000000)
  (hrec:∀ i,i<t.m->∀ (W:World) (u:Value) (q:Nat),ShF lo hi W (t.f i) u->q+2*(t.f i).nds<=4000000->Calls Tryz.prog 182 #[u, .int .i64 (q:Int)] W (NumPost lo hi q (t.f i).nds W)) :
  Calls Tryz.prog 182 #[s, .int .i64 (k:Int)] w (NumPost lo hi k t.nds w):=by
 have HR:=(show Hid _ from hrec);have HS:=(show Hid (ShF lo hi w t s) from hs);obtain ⟨g,c,rfl⟩:=hs.sl;have HND:=(show Hid (t.nds=t.m+t.upto t.m) from t.nds_eq);have HUP:=(show Hid _ from fun (i:Nat) (h:i<t.m)=>t.upto_le (show i+1<=t.m from h));have htl:t.m<=4000000:=by have:=HND.out;omega
 have HK:=(show Hid (k+2*t.nds<=4000000) from hk);clear hs hrec hk;go_enter Tryz.func182,Tryz.ntmps182;go_wp2_with fail
 go_loopw [1,5] (fun kv iv wr=>∃ i:Nat,kv= .int .i64 ((k+2*i+2*t.upto i:Nat):Int)/\iv= .int .i64 i/\i<=t.m/\Nx lo hi w wr) (fun _ iv _=>t.m-(intOf iv).toNat)
 case atStart=>exact ⟨0,rfl,rfl,Nat.zero_le _,Nx.refl _ _ _⟩
 case round =>
  obtain ⟨i,rfl,rfl,hil,hnx⟩:=hrel
  by_cases hlt:i<t.m
  ·have ik:((i:Int)<(t.m:Int)):=by omega
   obtain ⟨cs,x,y,b,d,hl1,hl2,hb,h0,h1,h2,hkid⟩:=ShF.at (HS.out.num hnx) hlt;have hup:=HUP.out i hlt;have hu:t.upto (i+1)=t.upto i+(t.f i).nds:=rfl;have hnd:=HND.out;have hk:=HK.out;obtain ⟨q,hq⟩:∃ q,k+2*i+2*t.upto i=q:=⟨_,rfl⟩;have hq2:q+2+2*(t.f i).nds<=4000000:=by omega
   have HKN:Hid (k+2*(i+1)+2*t.upto (i+1)=q+2+2*(t.f i).nds):=by show _=_;omega
   rw [hq];have a0:=hb.cell h0;have f0:=hb.free (i*3);have b1:=hb.set (i*3) (.int .i64 q);obtain ⟨h1',h2'⟩:=set2_at (.int .i64 (q:Int)) (.int .i64 ((q:Int)+1)) h1;have a1:=b1.cell h1';have f1:=b1.free (i*3+1);have b2:=b1.set (i*3+1) (.int .i64 ((q:Int)+1));have a2:=b2.cell (h2'.trans h2);have hw1:IntKind.i64.wrap ((q:Int)+1)=(q:Int)+1:=by rw [IntKind.wrap_i64];omega
   have hw2:IntKind.i64.wrap ((q:Int)+1+1)=(q:Int)+2:=by rw [IntKind.wrap_i64];omega
   have HN2:Hid (Nx lo hi wr ((wr.setCell ⟨g,i*3,none⟩ (.int .i64 q)).setCell ⟨g,i*3+1,none⟩ (.int .i64 ((q:Int)+1)))):=(Nx.set hb hl1 hl2 h0 _).trans (Nx.set b1 hl1 hl2 h1' _);have HC:=(show Hid _ from HR.out i hlt _ _ (q+2) (hkid.num HN2.out) hq2);have HW:=(show Hid (Nx lo hi w wr) from hnx);clear hkid b1 b2 hb hq h0 h1 h2 h1' h2' hnx hup hu hnd hk hl1 hl2;go_wp2_with fail;refine Calls.mono HC.out ?_;rintro e w7 ⟨rfl,hx7⟩;have HX:Hid (Nx lo hi w w7):=(HW.out.trans HN2.out).trans hx7;clear hx7;go_wp2_with fail;go_roundw
   case rel=>exact ⟨i+1,by rw [HKN.out];congr 1,by go_num,by omega,HX.out⟩
   case measure=>simp [intOf];omega
  ·have hie:i=t.m:=by omega
   have HIE:=(show Hid (i=t.m) from hie);have ik:¬ ((i:Int)<(t.m:Int)):=by omega
   clear hie;go_wp2_with fail;go_ret;refine ⟨?_,hnx⟩;have h1:=HIE.out;have h2:=HND.out;subst h1;have e1:(k:Int)+2*(t.m:Int)+2*(t.upto t.m:Int)=((k+2*t.nds:Nat):Int):=by omega
   exact congrArg (fun x=>Ending.returned (.int .i64 x)) e1
theorem markS_rt:∀ (t:RT) {lo hi:Nat} {s:Value} {w:World} {k:Nat},ShF lo hi w t s->k+2*t.nds<=4000000->Calls Tryz.prog 182 #[s, .int .i64 (k:Int)] w (NumPost lo hi k t.nds w)
 | .nil,_,_,_,_,_,hs,_=>hs.elim
 | .mk _ _ _ f,_,_,_,_,_,hs,hk=>markS_rstep hs hk fun i _ _ _ _ h hq=>markS_rt (f i) h hq
theorem markPlan_rt {t:RT} {lo hi:Nat} {s k' n':Value} {w:World} {k:Nat} (hs:ShF lo hi w t s) (hk:k+2*t.nds<=4000000) :
  Calls Tryz.prog 118 #[.agg #[k',n',s], .int .i64 (k:Int)] w (NumPost lo hi k t.nds w):=by
 have bA:Bk (w.alloc (.cells #[k',n',s] 25)) w.heap.size #[k',n',s] 25:=Bk.new _ _ rfl;have hb0:Below w.heap.size w (w.alloc (.cells #[k',n',s] 25)):=bAz (Below.refl _ _) _;have HC:=(show Hid _ from markS_rt t (hs.num (Nx.of_below (lo:=lo) (hi:=hi) hb0)) hk);obtain ⟨g,c,rfl⟩:=hs.sl;obtain ⟨x0,x1,x2⟩:=bA.three';clear hs bA;go_enter Tryz.func118,Tryz.ntmps118;go_wp2_with fail;refine Calls.mono HC.out ?_;rintro e w1 ⟨rfl,hx1⟩;have HX:Hid (Nx lo hi w w1):=(Nx.of_below hb0).trans hx1;clear hx1 hb0;go_wp2_with fail;go_ret;exact ⟨rfl,HX.out⟩
end Go.Proofs.YtbdpcngcbnoioaaGreatDoor
namespace Go.Proofs.YtbdpcngcbnoioaaGreatDoor
open Go.RowKit Go.Shelf
theorem Nx.bz {lo hi:Nat} {w w':World} (h:Nx lo hi w w'):Bz lo hi w w':=⟨h.os,h.tape,h.output,h.size,h.block⟩
theorem Bz.moved {lo hi B Hi:Nat} {w w':World} (h:Bz lo hi w w') (hd:hi<=B\/Hi<=lo):∀ b,b<w.heap.size->B<=b->b<Hi->w'.heap[b]?=w.heap[b]?:=fun b hb h1 h2=>h.block b hb (by omega)
theorem Ly.lyr {w:World} {v:Value} {L:List (List Rw)} (h:Ly w v L):LyR w v L:=by
 obtain ⟨vs,h1,h2,h3⟩:=h;exact ⟨vs,h1,h2,h3⟩
def LsM (w:World) (B hi g:Nat) (L:List (List Rw)):Prop:=∃ (c:Array Value) (G:Nat->Nat),Bk w g c 28/\c.size=L.length/\MdS w (g+1) c G L L.length/\B<=g/\g<hi/\∀ i,i<L.length->G i<hi
theorem LsM.ly {w:World} {B hi g:Nat} {L:List (List Rw)} (h:LsM w B hi g L) (hn:L.length<=1048576) (hl:L.flatten.length<=1048576):Ly w (.slice (some ⟨g,0,none⟩) L.length L.length) L:=by
 obtain ⟨c,G,h1,h2,h3,_⟩:=h;exact h3.ly h1 h2 (by omega) fun l h=>by have:=flat_mem_len h;omega
theorem LsM.moved {w w':World} {B hi g:Nat} {L:List (List Rw)} (h:LsM w B hi g L) (H:∀ b,b<w.heap.size->B<=b->b<hi->w'.heap[b]?=w.heap[b]?):LsM w' B hi g L:=by
 obtain ⟨c,G,h1,h2,h3,h4,h5,h6⟩:=h;refine ⟨c,G,by unfold Bk;rw [H g h1.lt h4 h5];exact h1,h2,⟨h3.1,fun i hi'=>?_⟩,h4,h5,h6⟩;obtain ⟨ci,q1,q2,q3,q4,q5⟩:=h3.2 i hi';exact ⟨ci,q1,q2,by unfold Bk;rw [H (G i) q3.lt (by omega) (h6 i hi')];exact q3,q4,q5⟩
theorem toRowSS_m (v:Value) (L:List (List Rw)) (w:World) (h:Ly w v L) :
  Calls Tryz.prog 112 #[v] w fun e w'=>∃ g:Nat,e= .returned (.slice (some ⟨g,0,none⟩) L.length L.length)/\LsM w' w.heap.size w'.heap.size g L/\Below w.heap.size w w' :=
 (toRowSS_any v L w h).mono fun _ _ ⟨c,G,h1,h2,h3,h4,h5⟩=>⟨_,h1,⟨c,G,h2,h3,h4,Nat.le_refl _,h2.lt,fun _ hi=>(h4.lt hi).2⟩,h5⟩
theorem markSS_m {w:World} {B hi g:Nat} {L:List (List Rw)} (h:LsM w B hi g L) (hn:L.length<=1048576) (hf:L.flatten.length<=1048576) (a:Int) (h0:0<=a) (h1:a<=4000000) :
  Calls Tryz.prog 119 #[.slice (some ⟨g,0,none⟩) L.length L.length, .int .i64 a] w fun e w'=>e= .returned (.int .i64 (a+5*(L.flatten.length:Int)))/\Bz B hi w w':=by
 obtain ⟨c,G,q1,q2,q3,q4,q5,q6⟩:=h;refine (markRowSS_any g (g+1) hi c G L a w q1 q2 q3 (by omega) q6 hn hf h0 (by omega)).mono fun e w' ⟨he,hz⟩=>⟨he,hz.os,hz.tape,hz.output,hz.size,fun k hk hor=>hz.block k hk (by omega)⟩
end Go.Proofs.YtbdpcngcbnoioaaGreatDoor
set_option maxRecDepth 100000
set_option maxHeartbeats 8000000
namespace Go.Proofs.YtbdpcngcbnoioaaGreatDoor
open Go.RowKit Go.Shelf
theorem LyR.ly {w:World} {v:Value} {L:List (List Rw)} (h:LyR w v L):Ly w v L:=by
 obtain ⟨vs,h1,h2,h3⟩:=h;exact ⟨vs,h1,h2,h3⟩
theorem szSess_rt {t:RT} {sp:Value} {a1:Option Addr} {len cap:Nat} {ns:Nat->Nat} {a2:Option Addr} {m cb:Nat} {a3:Option Addr} {q cd:Nat} {left:Int} {w:World} (hs:RdS 0 w t sp) (h1:LsArg w a1 len cap ns) (h2:TsArg w a2 m cb) (h3:RsArg w a3 q cd) (hl0:0<=left) (hl1:left<=1048576) :
  Calls Tryz.prog 42 #[sv t.k t.n sp (.slice a1 len cap) (.slice a2 m cb) (.slice a3 q cd), .int .i64 left] w fun e w'=>e= .returned (.int .i64 (szV left (t.nds+(len+sumN ns len)+m+q)))/\Below w.heap.size w w':=by
 have HS:=(show Hid (RdS 0 w t sp) from hs);obtain ⟨a0,c0,rfl,_,_⟩:=hs.sl;have bS:Bk (w.alloc (.cells (sc t.k t.n (.slice a0 t.m c0) (.slice a1 len cap) (.slice a2 m cb) (.slice a3 q cd)) 77)) w.heap.size (sc t.k t.n (.slice a0 t.m c0) (.slice a1 len cap) (.slice a2 m cb) (.slice a3 q cd)) 77:=Bk.new _ _ rfl;have hb0:Below w.heap.size w (w.alloc (.cells (sc t.k t.n (.slice a0 t.m c0) (.slice a1 len cap) (.slice a2 m cb) (.slice a3 q cd)) 77)):=bAz (Below.refl _ _) _;have HZ:=(show Hid _ from szPlan_rt t hl0 hl1 (HS.out.keep hb0));have HL:=(show Hid (LsArg w a1 len cap ns) from h1);have ht1:=h2.1;have ht2:=h2.2.1;have hr1:=h3.1;have hr2:=h3.2.1;obtain ⟨x0,x1,x2,x3,x4,x5⟩:=bS.six;have HB:=(show Hid (Bk _ _ _ _) from bS);clear hs h1 h2 h3 bS;go_enter Tryz.func42,Tryz.ntmps42;go_wp2_with fail;generalize (w.alloc (.cells (sc t.k t.n (.slice a0 t.m c0) (.slice a1 len cap) (.slice a2 m cb) (.slice a3 q cd)) 77))=W0 at *;refine Calls.mono HZ.out ?_;rintro e w1 ⟨rfl,hb1⟩;have hbw1:=bSz hb0 hb1;obtain ⟨y0,y1,y2,y3,y4,y5⟩:=(HB.out.keep hb1).six;clear x0 x1 x2 x3 x4 x5 HB HZ hb0 hb1;obtain ⟨nd,hnd⟩:∃ nd:Nat,t.nds=nd:=⟨_,rfl⟩;have HND:=(show Hid (t.nds=nd) from hnd);rw [hnd];clear hnd
 by_cases hq1:left<(nd:Int)
 ·have hz:szN left nd = -1:=by unfold szN;rw [if_pos hq1]
  have HN:Hid (szV left (nd+(len+sumN ns len)+m+q) = -1):=if_pos (by omega);rw [hz];go_wp2_with fail;go_ret;exact ⟨by rw [HND.out,HN.out];rfl,hbw1⟩
 have hz:szN left nd=left-nd:=by unfold szN;rw [if_neg hq1]
 obtain ⟨Z1,hZ1⟩:∃ Z:Int,left-(nd:Int)=Z:=⟨_,rfl⟩;have hz1:¬ (Z1<0):=by omega
 rw [hz,hZ1];go_wp2_with fail;refine (szRowSS_any a1 len cap ns Z1 _ (HL.out.keep hbw1) (by omega) (by omega)).mono ?_;obtain ⟨sn,hsn⟩:∃ sn:Nat,len+sumN ns len=sn:=⟨_,rfl⟩;have HSN:=(show Hid (len+sumN ns len=sn) from hsn);rw [hsn]
 by_cases hq2:Z1<(sn:Int)
 ·have hz2:szV Z1 sn = -1:=if_pos hq2;have HN:Hid (szV left (nd+sn+m+q) = -1):=if_pos (by omega);rw [hz2];rintro e w2 ⟨rfl,hw2⟩;obtain rfl:w1=w2:=hw2.symm;go_wp2_with fail;go_ret;exact ⟨by rw [HND.out,HSN.out,HN.out];rfl,hbw1⟩
 have hz2:szV Z1 sn=Z1-sn:=if_neg hq2;obtain ⟨Z2,hZ2⟩:∃ Z:Int,Z1-(sn:Int)=Z:=⟨_,rfl⟩;have hz3:¬ (Z2<0):=by omega
 rw [hz2,hZ2];rintro e w2 ⟨rfl,hw2⟩;obtain rfl:w1=w2:=hw2.symm;go_wp2_with fail;refine (szTimeS_any a2 m cb Z2 _ ht1 ht2 (by omega) (by omega)).mono ?_
 by_cases hq3:Z2<(m:Int)
 ·have HN:Hid (szV left (nd+sn+m+q) = -1):=if_pos (by omega);rw [if_pos hq3];rintro e w3 ⟨rfl,hw3⟩;obtain rfl:w1=w3:=hw3.symm;go_wp2_with fail;go_ret;exact ⟨by rw [HND.out,HSN.out,HN.out];rfl,hbw1⟩
 rw [if_neg hq3];obtain ⟨Z3,hZ3⟩:∃ Z:Int,Z2-(m:Int)=Z:=⟨_,rfl⟩;have hz4:¬ (Z3<0):=by omega
 rw [hZ3];rintro e w3 ⟨rfl,hw3⟩;obtain rfl:w1=w3:=hw3.symm;go_wp2_with fail;refine (szRowS_any a3 q cd Z3 _ hr1 hr2 (by omega) (by omega)).mono ?_
 by_cases hq4:Z3<(q:Int)
 ·have HN:Hid (szV left (nd+sn+m+q) = -1):=if_pos (by omega);rw [if_pos hq4];rintro e w4 ⟨rfl,hw4⟩;obtain rfl:w1=w4:=hw4.symm;go_wp2_with fail;go_ret;exact ⟨by rw [HND.out,HSN.out,HN.out];rfl,hbw1⟩
 rw [if_neg hq4];have HN:Hid (szV left (nd+sn+m+q)=Z3-(q:Int)):=by show _=_;unfold szV;rw [if_neg (by omega)];omega
 have hz5:¬ (Z3-(q:Int)<0):=by omega
 rintro e w4 ⟨rfl,hw4⟩;obtain rfl:w1=w4:=hw4.symm;go_wp2_with fail;go_ret;exact ⟨by rw [HND.out,HSN.out,HN.out];rfl,hbw1⟩
theorem eqSess_gen {k n:Int} {a0 b0:Option Addr} {m c0 d0:Nat} {si si' sf sf' sd sd':Value} {K:List (List Rw)} {f:LI} {d:List Rw} {w:World}
  (hp:∀ V:World,Below w.heap.size w V->Calls Tryz.prog 114 #[pl k n (.slice a0 m c0),pl k n (.slice b0 m d0)] V fun e w'=>e= .returned (.bool true)/\Below V.heap.size V w')
  (hi:Ly w si K) (hi':Ly w si' K) (hf:Ts w sf f) (hf':Ts w sf' f) (hd:Rs w sd d) (hd':Rs w sd' d) :
  Calls Tryz.prog 44 #[sv k n (.slice a0 m c0) si sf sd,sv k n (.slice b0 m d0) si' sf' sd'] w fun e w'=>e= .returned (.bool true)/\Below w.heap.size w w':=by
 have HP:=(show Hid _ from hp);have HI:=(show Hid (Ly w si K/\Ly w si' K) from ⟨hi,hi'⟩);have HF:=(show Hid (Ts w sf f/\Ts w sf' f) from ⟨hf,hf'⟩);have HD:=(show Hid (Rs w sd d/\Rs w sd' d) from ⟨hd,hd'⟩);obtain ⟨a1,c1,rfl,-⟩:=Ly.open hi;obtain ⟨b1,d1,rfl,-⟩:=Ly.open hi';obtain ⟨a2,c2,rfl,-⟩:=hf;obtain ⟨b2,d2,rfl,-⟩:=hf';obtain ⟨a3,c3,rfl,-⟩:=Rs.open hd;obtain ⟨b3,d3,rfl,-⟩:=Rs.open hd';clear hp hi hi' hd hd';have bi:Bk ((w.alloc (.cells (sc k n (.slice a0 m c0) (.slice a1 K.length c1) (.slice a2 f.length c2) (.slice a3 d.length c3)) 30)).alloc (.cells (sc k n (.slice b0 m d0) (.slice b1 K.length d1) (.slice b2 f.length d2) (.slice b3 d.length d3)) 30)) w.heap.size (sc k n (.slice a0 m c0) (.slice a1 K.length c1) (.slice a2 f.length c2) (.slice a3 d.length c3)) 30:=(Bk.new _ _ rfl).alloc _;have bj:Bk ((w.alloc (.cells (sc k n (.slice a0 m c0) (.slice a1 K.length c1) (.slice a2 f.length c2) (.slice a3 d.length c3)) 30)).alloc (.cells (sc k n (.slice b0 m d0) (.slice b1 K.length d1) (.slice b2 f.length d2) (.slice b3 d.length d3)) 30)) (w.heap.size+1) (sc k n (.slice b0 m d0) (.slice b1 K.length d1) (.slice b2 f.length d2) (.slice b3 d.length d3)) 30:=Bk.new (w:=w.alloc _) _ _ (by simp);have hb0:Below w.heap.size w ((w.alloc (.cells (sc k n (.slice a0 m c0) (.slice a1 K.length c1) (.slice a2 f.length c2) (.slice a3 d.length c3)) 30)).alloc (.cells (sc k n (.slice b0 m d0) (.slice b1 K.length d1) (.slice b2 f.length d2) (.slice b3 d.length d3)) 30)):=bAz (bAz (Below.refl _ _) _) _;have HX:Hid (∀ V:World,Below ((w.alloc (.cells (sc k n (.slice a0 m c0) (.slice a1 K.length c1) (.slice a2 f.length c2) (.slice a3 d.length c3)) 30)).alloc (.cells (sc k n (.slice b0 m d0) (.slice b1 K.length d1) (.slice b2 f.length d2) (.slice b3 d.length d3)) 30)).heap.size ((w.alloc (.cells (sc k n (.slice a0 m c0) (.slice a1 K.length c1) (.slice a2 f.length c2) (.slice a3 d.length c3)) 30)).alloc (.cells (sc k n (.slice b0 m d0) (.slice b1 K.length d1) (.slice b2 f.length d2) (.slice b3 d.length d3)) 30)) V->Bk V w.heap.size (sc k n (.slice a0 m c0) (.slice a1 K.length c1) (.slice a2 f.length c2) (.slice a3 d.length c3)) 30/\Bk V (w.heap.size+1) (sc k n (.slice b0 m d0) (.slice b1 K.length d1) (.slice b2 f.length d2) (.slice b3 d.length d3)) 30):=fun V hV=>⟨bi.keep hV,bj.keep hV⟩;obtain ⟨x0,x1,x2,x3,x4,x5⟩:=bi.six;obtain ⟨y0,y1,y2,y3,y4,y5⟩:=bj.six;have H1:=(show Hid _ from HP.out _ hb0);clear bi bj;go_enter Tryz.func44,Tryz.ntmps44;go_wp2_with fail;generalize ((w.alloc (.cells (sc k n (.slice a0 m c0) (.slice a1 K.length c1) (.slice a2 f.length c2) (.slice a3 d.length c3)) 30)).alloc (.cells (sc k n (.slice b0 m d0) (.slice b1 K.length d1) (.slice b2 f.length d2) (.slice b3 d.length d3)) 30))=W0 at *;refine Calls.mono H1.out ?_;rintro e w1 ⟨rfl,hb1⟩;have hbw1:=bSz hb0 hb1;have H2:=(show Hid _ from eqRowSS_same _ _ K _ (HI.out.1.keep hbw1) (HI.out.2.keep hbw1));obtain ⟨b1',b2'⟩:=HX.out _ hb1;clear x0 x1 x2 x3 x4 x5 y0 y1 y2 y3 y4 y5 H1 HP;obtain ⟨x0,x1,x2,x3,x4,x5⟩:=b1'.six;obtain ⟨y0,y1,y2,y3,y4,y5⟩:=b2'.six;clear b1' b2';go_wp2_with fail;refine Calls.mono H2.out ?_;rintro e w2 ⟨rfl,hb2⟩;have hbw2:=bSz hbw1 hb2;have hc2:=bSz hb1 hb2;have H3:=(show Hid _ from eqTimeS_same _ _ f _ (HF.out.1.keep hbw2) (HF.out.2.keep hbw2));obtain ⟨b1',b2'⟩:=HX.out _ hc2;clear x0 x1 x2 x3 x4 x5 y0 y1 y2 y3 y4 y5 H2 HI hb1 hb2 hbw1;obtain ⟨x0,x1,x2,x3,x4,x5⟩:=b1'.six;obtain ⟨y0,y1,y2,y3,y4,y5⟩:=b2'.six;clear b1' b2';go_wp2_with fail;refine Calls.mono H3.out ?_;rintro e w3 ⟨rfl,hb3⟩;have hbw3:=bSz hbw2 hb3;have hc3:=bSz hc2 hb3;have H4:=(show Hid _ from eqRowS_same _ _ d _ (HD.out.1.keep hbw3) (HD.out.2.keep hbw3));obtain ⟨b1',b2'⟩:=HX.out _ hc3;clear x0 x1 x2 x3 x4 x5 y0 y1 y2 y3 y4 y5 H3 HF hb3 hbw2 hc2;obtain ⟨x0,x1,x2,x3,x4,x5⟩:=b1'.six;obtain ⟨y0,y1,y2,y3,y4,y5⟩:=b2'.six;clear b1' b2';go_wp2_with fail;refine Calls.mono H4.out ?_;rintro e w4 ⟨rfl,hb4⟩;have hbw4:=bSz hbw3 hb4;clear x0 x1 x2 x3 x4 x5 y0 y1 y2 y3 y4 y5 H4 HD;go_wp2_with fail;go_ret;exact ⟨rfl,hbw4⟩
theorem eqSess_rt {s:XS} {sp si sf sd sp' si' sf' sd':Value} {w:World} (h:SesX w sp si sf sd s) (h':SesX w sp' si' sf' sd' s) :
  Calls Tryz.prog 44 #[sv s.t.k s.t.n sp si sf sd,sv s.t.k s.t.n sp' si' sf' sd'] w fun e w'=>e= .returned (.bool true)/\Below w.heap.size w w':=by
 obtain ⟨a0,c0,e0,-⟩:=h.rd.sl;obtain ⟨b0,d0,e0',-⟩:=h'.rd.sl;subst e0 e0';exact eqSess_gen (fun V hV=>eqPlan_rt s.t (h.rd.keep hV) (h'.rd.keep hV)) h.ly.ly h'.ly.ly h.ts h'.ts h.rs h'.rs
end Go.Proofs.YtbdpcngcbnoioaaGreatDoor
set_option maxRecDepth 100000
set_option maxHeartbeats 16000000
namespace Go.Proofs.YtbdpcngcbnoioaaGreatDoor
open Go.RowKit Go.Shelf
theorem RdF.within {B lo hi:Nat} {w w':World} (H:∀ x,lo<=x->x<hi->x<w.heap.size->w'.heap[x]?=w.heap[x]?):∀ {t:RT} {s:Value},ShF lo hi w t s->RdF B w t s->RdF B w' t s
 | .nil,_,h,_=>h.elim
 | .mk _ _ _ f,_,⟨g1,c1,cs1,e1,hl,hh,hb1,h1⟩,⟨g,c,cs,e,q1,q2,hg,hb,h⟩=>by
  subst e1;cases e;have hbk:Bk w' g1 cs 25:=by unfold Bk;rw [H g1 hl hh hb.lt];exact hb
  have hcs:cs1=cs:=by unfold Bk at hb hb1;rw [hb] at hb1;injection hb1 with hb1;injection hb1 with hb1;exact hb1.symm
  subst hcs;refine ⟨g1,c1,cs1,rfl,q1,q2,hg,hbk,fun i hi=>?_⟩;obtain ⟨k0,k1,sx,k2,hx⟩:=h i hi;obtain ⟨_,_,b,d,k3,hy⟩:=h1 i hi;rw [k2] at k3;cases k3;exact ⟨k0,k1,_,k2,RdF.within H hy hx⟩
theorem ShF.within {lo hi:Nat} {w w':World} (H:∀ x,lo<=x->x<hi->x<w.heap.size->w'.heap[x]?=w.heap[x]?):∀ {t:RT} {s:Value},ShF lo hi w t s->ShF lo hi w' t s
 | .nil,_,h=>h.elim
 | .mk _ _ _ f,_,⟨g,c,cs,e,hl,hh,hb,h⟩=>⟨g,c,cs,e,hl,hh,by unfold Bk;rw [H g hl hh hb.lt];exact hb,fun i hi=>by
  obtain ⟨q0,q1,b,d,q2,hx⟩:=h i hi;exact ⟨q0,q1,b,d,q2,ShF.within H hx⟩⟩
def Like (lo hi:Nat) (w w':World):Prop:=∀ x,lo<=x->x<hi->w'.heap[x]?=w.heap[x]?
theorem bk_like {w w':World} {lo hi g:Nat} {c:Array Value} {t:TypeId} (h:Bk w g c t) (H:Like lo hi w w') (h1:lo<=g) (h2:g<hi):Bk w' g c t:=by unfold Bk;rw [H g h1 h2];exact h
structure SxM (w:World) (B hi h1 h2 g gF gD:Nat) (cF cD:Array Value) (sp:Value) (s:XS):Prop where
 n1:B<=h1
 n2:h1<=h2
 n3:h2<=gF
 n4:gF<gD
 n5:gD<hi
 rd:RdF B w s.t sp
 sh:ShF B h1 w s.t sp
 ls:LsM w h1 h2 g s.K
 bF:Bk w gF cF 32
 sF:cF.size=s.f.length*2
 fF:Fill cF s.f s.f.length
 bD:Bk w gD cD 55
 sD:cD.size=s.d.length*5
 fD:FillK rowC 5 cD s.d s.d.length
abbrev mslS (g n:Nat):Value:= .slice (some ⟨g,0,none⟩) n n
theorem SxM.like {w w':World} {B hi h1 h2 g gF gD:Nat} {cF cD:Array Value} {sp:Value} {s:XS} (h:SxM w B hi h1 h2 g gF gD cF cD sp s) (H:Like B hi w w'):SxM w' B hi h1 h2 g gF gD cF cD sp s:=by
 have a1:=h.n1;have a2:=h.n2;have a3:=h.n3;have a4:=h.n4;have a5:=h.n5;exact ⟨h.n1,h.n2,h.n3,h.n4,h.n5,h.rd.within (fun x q1 q2 _=>H x (by omega) (by omega)) h.sh,h.sh.within fun x q1 q2 _=>H x (by omega) (by omega),h.ls.moved fun x _ q1 q2=>H x (by omega) (by omega),
  bk_like h.bF H (by omega) (by omega),h.sF,h.fF,bk_like h.bD H (by omega) (by omega),h.sD,h.fD⟩
theorem SxM.keep {w w':World} {B hi h1 h2 g gF gD:Nat} {cF cD:Array Value} {sp:Value} {s:XS} (h:SxM w B hi h1 h2 g gF gD cF cD sp s) (hb:Below w.heap.size w w') (hh:hi<=w.heap.size):SxM w' B hi h1 h2 g gF gD cF cD sp s :=
 h.like fun x _ h2=>hb.block x (by omega)
structure FewX (s:XS):Prop where
 t:s.t.nds<=1048576
 k:s.K.length<=1048576
 l:s.K.flatten.length<=1048576
 f:s.f.length<=1048576
 d:s.d.length<=1048576
theorem SxM.ses {w:World} {B hi h1 h2 g gF gD:Nat} {cF cD:Array Value} {sp:Value} {s:XS} (h:SxM w B hi h1 h2 g gF gD cF cD sp s) (hw:FewX s):SesX w sp (mslS g s.K.length) (mslS gF s.f.length) (mslS gD s.d.length) s where
 rd:=RdS.less (Nat.zero_le _) h.rd.rd
 ly:=(h.ls.ly hw.k hw.l).lyr
 ts:=Ts.of_blk h.bF h.fF (Nat.le_refl _) (by have:=hw.f;unfold maxLen;omega) (by have:=hw.f;omega)
 rs:=SlK.of_blk h.bD h.fD rowC_len (Nat.le_refl _) (by have:=hw.d;unfold maxLen;omega) (by have:=hw.d;omega)
abbrev set6 (w:World) (r:Nat) (a0 a1 a2 a3 a4 a5:Value):World:=(((((w.setCell ⟨r,0,none⟩ a0).setCell ⟨r,1,none⟩ a1).setCell ⟨r,2,none⟩ a2).setCell ⟨r,3,none⟩ a3).setCell ⟨r,4,none⟩ a4).setCell ⟨r,5,none⟩ a5
theorem set6_heap {w:World} {r x:Nat} {a0 a1 a2 a3 a4 a5:Value} (h:x≠r):(set6 w r a0 a1 a2 a3 a4 a5).heap[x]?=w.heap[x]? :=
 (((((Below.heap_setCell _ _ _ _ h).trans (Below.heap_setCell _ _ _ _ h)).trans (Below.heap_setCell _ _ _ _ h)).trans (Below.heap_setCell _ _ _ _ h)).trans (Below.heap_setCell _ _ _ _ h)).trans (Below.heap_setCell _ _ _ _ h)
theorem set6_bk {w:World} {r:Nat} {c0 c1 c2 c3 c4 c5:Value} {t:TypeId} (h:Bk w r #[c0,c1,c2,c3,c4,c5] t) (a0 a1 a2 a3 a4 a5:Value):Bk (set6 w r a0 a1 a2 a3 a4 a5) r #[a0,a1,a2,a3,a4,a5] t :=
 (((((h.set 0 a0).set 1 a1).set 2 a2).set 3 a3).set 4 a4).set 5 a5
theorem set6_below {N:Nat} {u w:World} {r:Nat} (h:Below N u w) (hr:N<=r) (a0 a1 a2 a3 a4 a5:Value):Below N u (set6 w r a0 a1 a2 a3 a4 a5) :=
 (((((h.setCell hr a0).setCell hr a1).setCell hr a2).setCell hr a3).setCell hr a4).setCell hr a5
abbrev z6:Array Value:=#[.int .i64 0, .int .i64 0, .slice none 0 0, .slice none 0 0, .slice none 0 0, .slice none 0 0]
abbrev MadeX (s:XS) (w:World) (e:Ending) (w':World):Prop:=∃ (h1 h2 g gF gD:Nat) (cF cD:Array Value) (b:Option Addr) (c:Nat),e= .returned (sv s.t.k s.t.n (.slice b s.t.m c) (mslS g s.K.length) (mslS gF s.f.length) (mslS gD s.d.length))/\SxM w' w.heap.size w'.heap.size h1 h2 g gF gD cF cD (.slice b s.t.m c) s/\Below w.heap.size w w'
theorem toSess_rt {s:XS} {sp si sf sd:Value} {w:World} (hw:FewX s) (h:SesX w sp si sf sd s) :
  Calls Tryz.prog 43 #[sv s.t.k s.t.n sp si sf sd] w (MadeX s w):=by
 have HW:=(show Hid (FewX s) from hw);have HS:=(show Hid (SesX w sp si sf sd s) from h);obtain ⟨a0,c0,a1,c1,a2,c2,a3,c3,rfl,rfl,rfl,rfl⟩:=h.sl;clear h hw;have bi:Bk (((w.alloc (.cells (sc s.t.k s.t.n (.slice a0 s.t.m c0) (.slice a1 s.K.length c1) (.slice a2 s.f.length c2) (.slice a3 s.d.length c3)) 77)).alloc (.cells z6 30)).alloc (.cells z6 30)) w.heap.size (sc s.t.k s.t.n (.slice a0 s.t.m c0) (.slice a1 s.K.length c1) (.slice a2 s.f.length c2) (.slice a3 s.d.length c3)) 77:=((Bk.new _ _ rfl).alloc _).alloc _;have br:Bk (((w.alloc (.cells (sc s.t.k s.t.n (.slice a0 s.t.m c0) (.slice a1 s.K.length c1) (.slice a2 s.f.length c2) (.slice a3 s.d.length c3)) 77)).alloc (.cells z6 30)).alloc (.cells z6 30)) (w.heap.size+1) z6 30:=(Bk.new (w:=w.alloc _) _ _ (by simp)).alloc _;have bo:Bk (((w.alloc (.cells (sc s.t.k s.t.n (.slice a0 s.t.m c0) (.slice a1 s.K.length c1) (.slice a2 s.f.length c2) (.slice a3 s.d.length c3)) 77)).alloc (.cells z6 30)).alloc (.cells z6 30)) (w.heap.size+1+1) z6 30:=Bk.new (w:=(w.alloc _).alloc _) _ _ (by simp);have hb0:Below w.heap.size w (((w.alloc (.cells (sc s.t.k s.t.n (.slice a0 s.t.m c0) (.slice a1 s.K.length c1) (.slice a2 s.f.length c2) (.slice a3 s.d.length c3)) 77)).alloc (.cells z6 30)).alloc (.cells z6 30)):=bAz (bAz (bAz (Below.refl _ _) _) _) _;have hz0:(((w.alloc (.cells (sc s.t.k s.t.n (.slice a0 s.t.m c0) (.slice a1 s.K.length c1) (.slice a2 s.f.length c2) (.slice a3 s.d.length c3)) 77)).alloc (.cells z6 30)).alloc (.cells z6 30)).heap.size=w.heap.size+3:=by simp
 have H1:=(show Hid _ from toPlan_rtF s.t HW.out.t (HS.out.rd.keep hb0));obtain ⟨x0,x1,x2,x3,x4,x5⟩:=bi.six;go_enter Tryz.func43,Tryz.ntmps43;go_wp2_with fail;generalize (((w.alloc (.cells (sc s.t.k s.t.n (.slice a0 s.t.m c0) (.slice a1 s.K.length c1) (.slice a2 s.f.length c2) (.slice a3 s.d.length c3)) 77)).alloc (.cells z6 30)).alloc (.cells z6 30))=W0 at *;refine Calls.mono H1.out ?_;rintro e w1 ⟨b5,d5,rfl,hr1,hb1⟩;generalize hO:w.heap.size+1+1=o at *;generalize hR:w.heap.size+1=r at *;have hro:r≠o:=by omega
 have hor:o≠r:=by omega
 have hio:w.heap.size≠o:=by omega
 have hwo:w.heap.size<=o:=by omega
 have hwr:w.heap.size<=r:=by omega
 have hs1:=hb1.size;have hbw1:=bSz hb0 hb1;have bi1:=bi.keep hb1;have br1:=br.keep hb1;have bo1:=bo.keep hb1;have HP1:=(show Hid (RdF W0.heap.size w1 s.t (.slice b5 s.t.m d5)) from hr1);clear x0 x1 x2 x3 x4 x5 bi br bo hr1 hb1 hb0 H1
 -- the plan is put down
 have bo2:=((bo1.set 0 (.int .i64 s.t.k)).set 1 (.int .i64 s.t.n)).set 2 (.slice b5 s.t.m d5);have br2:=((br1.apart (p:=⟨o,0,none⟩) hro (.int .i64 s.t.k)).apart (p:=⟨o,1,none⟩) hro (.int .i64 s.t.n)).apart (p:=⟨o,2,none⟩) hro (.slice b5 s.t.m d5);have bi2:=((bi1.apart (p:=⟨o,0,none⟩) hio (.int .i64 s.t.k)).apart (p:=⟨o,1,none⟩) hio (.int .i64 s.t.n)).apart (p:=⟨o,2,none⟩) hio (.slice b5 s.t.m d5);have hbw2:Below w.heap.size w (((w1.setCell ⟨o,0,none⟩ (.int .i64 s.t.k)).setCell ⟨o,1,none⟩ (.int .i64 s.t.n)).setCell ⟨o,2,none⟩ (.slice b5 s.t.m d5)):=((hbw1.setCell hwo _).setCell hwo _).setCell hwo _;have HK1:Hid (Like W0.heap.size w1.heap.size w1 (((w1.setCell ⟨o,0,none⟩ (.int .i64 s.t.k)).setCell ⟨o,1,none⟩ (.int .i64 s.t.n)).setCell ⟨o,2,none⟩ (.slice b5 s.t.m d5))):=fun x q1 _=>by
  have hx:x≠o:=by omega
  exact ((Below.heap_setCell _ _ _ _ hx).trans (Below.heap_setCell _ _ _ _ hx)).trans (Below.heap_setCell _ _ _ _ hx)
 have hz2:(((w1.setCell ⟨o,0,none⟩ (.int .i64 s.t.k)).setCell ⟨o,1,none⟩ (.int .i64 s.t.n)).setCell ⟨o,2,none⟩ (.slice b5 s.t.m d5)).heap.size=w1.heap.size:=by simp
 have H2:=(show Hid _ from toRowSS_m _ s.K _ (HS.out.ly.ly.keep hbw2));obtain ⟨p0,p1,p2,p3,p4,p5⟩:=bo1.six;have f0:=bo1.free 0;have f1:=bo1.free 1;have f2:=bo1.free 2;obtain ⟨x0,x1,x2,x3,x4,x5⟩:=bi2.six;clear bi1 br1 bo1 hbw1;go_wp2_with fail;generalize (((w1.setCell ⟨o,0,none⟩ (.int .i64 s.t.k)).setCell ⟨o,1,none⟩ (.int .i64 s.t.n)).setCell ⟨o,2,none⟩ (.slice b5 s.t.m d5))=u1 at *;refine Calls.mono H2.out ?_;rintro e w2 ⟨g2,rfl,hm2,hb2⟩;have hs2:=hb2.size;have hbw3:=bSz hbw2 hb2;have bi3:=bi2.keep hb2;have br3:=br2.keep hb2;have bo3:=bo2.keep hb2;have HP2:=(show Hid (LsM w2 u1.heap.size w2.heap.size g2 s.K) from hm2);have HB2:=(show Hid (Below u1.heap.size u1 w2) from hb2);clear x0 x1 x2 x3 x4 x5 p0 p1 p2 p3 p4 p5 f0 f1 f2 bi2 br2 bo2 hm2 hb2 hbw2 H2
 -- the lists
 have bo4:=bo3.set 3 (mslS g2 s.K.length);have br4:=br3.apart (p:=⟨o,3,none⟩) hro (mslS g2 s.K.length);have bi4:=bi3.apart (p:=⟨o,3,none⟩) hio (mslS g2 s.K.length);have hbw4:Below w.heap.size w (w2.setCell ⟨o,3,none⟩ (mslS g2 s.K.length)):=hbw3.setCell hwo _;have HK2:Hid (Like W0.heap.size w2.heap.size w2 (w2.setCell ⟨o,3,none⟩ (mslS g2 s.K.length))):=fun x q1 _=>Below.heap_setCell _ _ _ _ (show x≠o by omega);have hz4:(w2.setCell ⟨o,3,none⟩ (mslS g2 s.K.length)).heap.size=w2.heap.size:=by simp
 have H3:=(show Hid _ from toTimeS_any _ s.f _ (HS.out.ts.keep hbw4));obtain ⟨p0,p1,p2,p3,p4,p5⟩:=bo3.six;have f3:=bo3.free 3;obtain ⟨x0,x1,x2,x3,x4,x5⟩:=bi4.six;clear bi3 br3 bo3 hbw3;go_wp2_with fail;generalize (w2.setCell ⟨o,3,none⟩ (mslS g2 s.K.length))=u2 at *;refine Calls.mono H3.out ?_;rintro e w3 ⟨gF,cF,rfl,hgF,hbF,hcF,hfF,hb3⟩;have hs3:=hb3.size;have hlF:=hbF.lt;have hbw5:=bSz hbw4 hb3;have bi5:=bi4.keep hb3;have br5:=br4.keep hb3;have bo5:=bo4.keep hb3;have HP3:=(show Hid (Bk w3 gF cF 32/\cF.size=s.f.length*2/\Fill cF s.f s.f.length) from ⟨hbF,hcF,hfF⟩);have HB3:=(show Hid (Below u2.heap.size u2 w3) from hb3);clear x0 x1 x2 x3 x4 x5 p0 p1 p2 p3 p4 p5 f3 bi4 br4 bo4 hbF hcF hfF hb3 hbw4 H3
 -- the front
 have bo6:=bo5.set 4 (mslS gF s.f.length);have br6:=br5.apart (p:=⟨o,4,none⟩) hro (mslS gF s.f.length);have bi6:=bi5.apart (p:=⟨o,4,none⟩) hio (mslS gF s.f.length);have hbw6:Below w.heap.size w (w3.setCell ⟨o,4,none⟩ (mslS gF s.f.length)):=hbw5.setCell hwo _;have HK3:Hid (Like W0.heap.size w3.heap.size w3 (w3.setCell ⟨o,4,none⟩ (mslS gF s.f.length))):=fun x q1 _=>Below.heap_setCell _ _ _ _ (show x≠o by omega);have hz6:(w3.setCell ⟨o,4,none⟩ (mslS gF s.f.length)).heap.size=w3.heap.size:=by simp
 have H4:=(show Hid _ from toRowS_any _ s.d _ (HS.out.rs.keep hbw6));obtain ⟨p0,p1,p2,p3,p4,p5⟩:=bo5.six;have f4:=bo5.free 4;obtain ⟨x0,x1,x2,x3,x4,x5⟩:=bi6.six;clear bi5 br5 bo5 hbw5;go_wp2_with fail;generalize (w3.setCell ⟨o,4,none⟩ (mslS gF s.f.length))=u3 at *;refine Calls.mono H4.out ?_;rintro e w4 ⟨gD,cD,rfl,hgD,hbD,hcD,hfD,hb4⟩;have hs4:=hb4.size;have hlD:=hbD.lt;have hbw7:=bSz hbw6 hb4;have br7:=br6.keep hb4;have bo7:=bo6.keep hb4;have HB4:=(show Hid (Below u3.heap.size u3 w4) from hb4);have HP4:=(show Hid (Bk w4 gD cD 55/\cD.size=s.d.length*5/\FillK rowC 5 cD s.d s.d.length) from ⟨hbD,hcD,hfD⟩);clear x0 x1 x2 x3 x4 x5 p0 p1 p2 p3 p4 p5 f4 bi6 br6 bo6 hbD hcD hfD hb4 hbw6 H4
 -- what was told,and the whole
 have bo8:=bo7.set 5 (mslS gD s.d.length);have br8:=br7.apart (p:=⟨o,5,none⟩) hro (mslS gD s.d.length);have hbw8:Below w.heap.size w (w4.setCell ⟨o,5,none⟩ (mslS gD s.d.length)):=hbw7.setCell hwo _;have br9:=set6_bk br8 (.int .i64 s.t.k) (.int .i64 s.t.n) (.slice b5 s.t.m d5) (mslS g2 s.K.length) (mslS gF s.f.length) (mslS gD s.d.length);have HBW:Hid (Below w.heap.size w (set6 (w4.setCell ⟨o,5,none⟩ (mslS gD s.d.length)) r (.int .i64 s.t.k) (.int .i64 s.t.n) (.slice b5 s.t.m d5) (mslS g2 s.K.length) (mslS gF s.f.length) (mslS gD s.d.length))):=set6_below hbw8 hwr _ _ _ _ _ _;have hzU:(set6 (w4.setCell ⟨o,5,none⟩ (mslS gD s.d.length)) r (.int .i64 s.t.k) (.int .i64 s.t.n) (.slice b5 s.t.m d5) (mslS g2 s.K.length) (mslS gF s.f.length) (mslS gD s.d.length)).heap.size=w4.heap.size:=by simp
 have HM:Hid (SxM (set6 (w4.setCell ⟨o,5,none⟩ (mslS gD s.d.length)) r (.int .i64 s.t.k) (.int .i64 s.t.n) (.slice b5 s.t.m d5) (mslS g2 s.K.length) (mslS gF s.f.length) (mslS gD s.d.length)) w.heap.size (set6 (w4.setCell ⟨o,5,none⟩ (mslS gD s.d.length)) r (.int .i64 s.t.k) (.int .i64 s.t.n) (.slice b5 s.t.m d5) (mslS g2 s.K.length) (mslS gF s.f.length) (mslS gD s.d.length)).heap.size w1.heap.size w2.heap.size g2 gF gD cF cD (.slice b5 s.t.m d5) s):=by
  have k4:Like W0.heap.size w4.heap.size w4 (set6 (w4.setCell ⟨o,5,none⟩ (mslS gD s.d.length)) r (.int .i64 s.t.k) (.int .i64 s.t.n) (.slice b5 s.t.m d5) (mslS g2 s.K.length) (mslS gF s.f.length) (mslS gD s.d.length)):=fun x q1 _=>(set6_heap (show x≠r by omega)).trans (Below.heap_setCell _ _ _ _ (show x≠o by omega));have k3:Like W0.heap.size w3.heap.size w3 (set6 (w4.setCell ⟨o,5,none⟩ (mslS gD s.d.length)) r (.int .i64 s.t.k) (.int .i64 s.t.n) (.slice b5 s.t.m d5) (mslS g2 s.K.length) (mslS gF s.f.length) (mslS gD s.d.length)):=fun x q1 q2=>((k4 x q1 (by omega)).trans (HB4.out.block x (by omega))).trans (HK3.out x q1 q2);have k2:Like W0.heap.size w2.heap.size w2 (set6 (w4.setCell ⟨o,5,none⟩ (mslS gD s.d.length)) r (.int .i64 s.t.k) (.int .i64 s.t.n) (.slice b5 s.t.m d5) (mslS g2 s.K.length) (mslS gF s.f.length) (mslS gD s.d.length)):=fun x q1 q2=>((k3 x q1 (by omega)).trans (HB3.out.block x (by omega))).trans (HK2.out x q1 q2);have k1:Like W0.heap.size w1.heap.size w1 (set6 (w4.setCell ⟨o,5,none⟩ (mslS gD s.d.length)) r (.int .i64 s.t.k) (.int .i64 s.t.n) (.slice b5 s.t.m d5) (mslS g2 s.K.length) (mslS gF s.f.length) (mslS gD s.d.length)):=fun x q1 q2=>((k2 x q1 (by omega)).trans (HB2.out.block x (by omega))).trans (HK1.out x q1 q2);obtain ⟨t1,t2,t3⟩:=HP3.out;obtain ⟨t4,t5,t6⟩:=HP4.out;have sh1:=HP1.out.form;refine ⟨by omega,by omega,by omega,by omega,by omega,RdF.less (by omega) (HP1.out.move fun x q1 q2=>k1 x q1 q2),?_,?_,bk_like t1 k3 (by omega) hlF,t2,t3,bk_like t4 k4 (by omega) hlD,t5,t6⟩
  ·exact ShF.less (by omega) (sh1.within fun x q1 q2 _=>k1 x q1 q2)
  ·have:=HP2.out;rw [hz2] at this;exact this.moved fun x _ q1 q2=>k2 x (by omega) q2
 obtain ⟨p0,p1,p2,p3,p4,p5⟩:=bo7.six;have f5:=bo7.free 5;obtain ⟨x0,x1,x2,x3,x4,x5⟩:=bo8.six;obtain ⟨y0,y1,y2,y3,y4,y5⟩:=br8.six;have g0:=br8.free 0;have g1:=br8.free 1;have g2':=br8.free 2;have g3:=br8.free 3;have g4:=br8.free 4;have g5:=br8.free 5;have HY:=(show Hid (Bk _ _ _ _) from br9);clear br7 bo7 bo8 br8 br9 hbw7 hbw8 hzU;go_wp2_with fail;obtain ⟨q0,q1,q2,q3,q4,q5⟩:=HY.out.six;refine bodyPost_ret (v:=sv s.t.k s.t.n (.slice b5 s.t.m d5) (mslS g2 s.K.length) (mslS gF s.f.length) (mslS gD s.d.length)) (by simp [results,Tryz.results43,go_sem,q0,q1,q2,q3,q4,q5]) rfl ?_;exact ⟨_,_,_,_,_,_,_,_,_,rfl,HM.out,HBW.out⟩
end Go.Proofs.YtbdpcngcbnoioaaGreatDoor
set_option maxRecDepth 100000
set_option maxHeartbeats 8000000
namespace Go.Proofs.YtbdpcngcbnoioaaGreatDoor
open Go.RowKit Go.Shelf
theorem Bz.less {lo hi lo' hi':Nat} {w w':World} (h:Bz lo hi w w') (h1:lo'<=lo) (h2:hi<=hi'):Bz lo' hi' w w':=⟨h.os,h.tape,h.output,h.size,fun k hk hor=>h.block k hk (by omega)⟩
theorem markSess_rt {s:XS} {w:World} {B hi h1 h2 g gF gD:Nat} {cF cD:Array Value} {sp:Value} (h:SxM w B hi h1 h2 g gF gD cF cD sp s) (hw:FewX s) (hhi:hi<=w.heap.size) :
  Calls Tryz.prog 49 #[sv s.t.k s.t.n sp (mslS g s.K.length) (mslS gF s.f.length) (mslS gD s.d.length), .int .i64 1] w fun e w'=>∃ k:Int,e= .returned (.int .i64 k)/\0<=k/\k<=100000000/\Bz B hi w w':=by
 obtain ⟨gp,cp,rfl⟩:=h.sh.sl;have bS:Bk (w.alloc (.cells (sc s.t.k s.t.n (.slice (some ⟨gp,0,none⟩) s.t.m cp) (mslS g s.K.length) (mslS gF s.f.length) (mslS gD s.d.length)) 30)) w.heap.size (sc s.t.k s.t.n (.slice (some ⟨gp,0,none⟩) s.t.m cp) (mslS g s.K.length) (mslS gF s.f.length) (mslS gD s.d.length)) 30:=Bk.new _ _ rfl;have hb0:Below w.heap.size w (w.alloc (.cells (sc s.t.k s.t.n (.slice (some ⟨gp,0,none⟩) s.t.m cp) (mslS g s.K.length) (mslS gF s.f.length) (mslS gD s.d.length)) 30)):=bAz (Below.refl _ _) _;have HM:=(show Hid _ from h.keep hb0 hhi);have n1:=h.n1;have n2:=h.n2;have n3:=h.n3;have n4:=h.n4;have n5:=h.n5;have HW:=(show Hid (FewX s) from hw);have w1':=hw.t;have w3':=hw.l;have w4':=hw.f;have w5':=hw.d;obtain ⟨nd,hnd⟩:∃ nd,s.t.nds=nd:=⟨_,rfl⟩;obtain ⟨fl,hfl⟩:∃ fl,s.K.flatten.length=fl:=⟨_,rfl⟩;rw [hnd] at w1';rw [hfl] at w3';have HND:=(show Hid (s.t.nds=nd) from hnd);have HFL:=(show Hid (s.K.flatten.length=fl) from hfl);have H1:=(show Hid _ from markPlan_rt (k':= .int .i64 s.t.k) (n':= .int .i64 s.t.n) (k:=1) HM.out.sh (by rw [hnd];omega));rw [hnd] at H1;obtain ⟨x0,x1,x2,x3,x4,x5⟩:=bS.six;have HZ0:Hid (Bz B hi w (w.alloc (.cells (sc s.t.k s.t.n (.slice (some ⟨gp,0,none⟩) s.t.m cp) (mslS g s.K.length) (mslS gF s.f.length) (mslS gD s.d.length)) 30))):=Bz.of_below hb0;clear h hw hnd hfl hb0;go_enter Tryz.func49,Tryz.ntmps49;go_wp2_with fail;generalize (w.alloc (.cells (sc s.t.k s.t.n (.slice (some ⟨gp,0,none⟩) s.t.m cp) (mslS g s.K.length) (mslS gF s.f.length) (mslS gD s.d.length)) 30))=W0 at *;refine Calls.mono H1.out ?_;rintro e w1 ⟨rfl,hx1⟩;have hz1:=hx1.bz;have HL1:=(show Hid (LsM _ _ _ _ _) from HM.out.ls.moved (hz1.moved (.inl (Nat.le_refl _))));have hF1:=HM.out.bF.keepz hz1 (by omega);have hD1:=HM.out.bD.keepz hz1 (by omega);have bS1:=bS.keepz hz1 (by omega);have HZ1:Hid (Bz B hi w w1):=HZ0.out.trans (hz1.less (Nat.le_refl _) (by omega));have H2:=(show Hid _ from markSS_m HL1.out HW.out.k HW.out.l ((1+2*nd:Nat):Int) (by omega) (by omega));rw [HFL.out] at H2;clear x0 x1 x2 x3 x4 x5 H1 hx1 hz1 bS HZ0;obtain ⟨x0,x1,x2,x3,x4,x5⟩:=bS1.six;go_wp2_with fail;refine Calls.mono H2.out ?_;rintro e w2 ⟨rfl,hz2⟩;have hF2:=hF1.keepz hz2 (by omega);have hD2:=hD1.keepz hz2 (by omega);have bS2:=bS1.keepz hz2 (by omega);have HZ2:Hid (Bz B hi w w2):=HZ1.out.trans (hz2.less (by omega) (by omega));obtain ⟨A,hA⟩:∃ A:Int,((1+2*nd:Nat):Int)+5*(fl:Int)=A:=⟨_,rfl⟩;have hA0:0<=A/\A<=20000000:=by omega
 rw [hA];have H3:=(show Hid _ from markB_any gF s.f.length s.f.length cF A w2 hF2 HM.out.sF (Nat.le_refl _) (by omega) (by omega) (by omega));clear x0 x1 x2 x3 x4 x5 H2 hz2 bS1 HZ1 hF1 hD1 HL1 hA hF2;obtain ⟨x0,x1,x2,x3,x4,x5⟩:=bS2.six;go_wp2_with fail;refine Calls.mono H3.out ?_;rintro e w3 ⟨c3,rfl,_,_,_,hx3⟩;have hD3:=hD2.keepx hx3 (by omega);have bS3:=bS2.keepx hx3 (by have:=bS2.lt;omega);have HZ3:Hid (Bz B hi w w3):=HZ2.out.trans (Bz.of_bx hx3 (by omega) (by omega));obtain ⟨A2,hA2⟩:∃ A2:Int,A+2*(s.f.length:Int)=A2:=⟨_,rfl⟩;have hA3:0<=A2/\A2<=30000000:=by omega
 rw [hA2];have H4:=(show Hid _ from markRB_any gD s.d.length s.d.length cD A2 w3 hD3 HM.out.sD (Nat.le_refl _) (by omega) (by omega) (by omega));clear x0 x1 x2 x3 x4 x5 H3 hx3 bS2 HZ2 hD2 hA2 hD3;obtain ⟨x0,x1,x2,x3,x4,x5⟩:=bS3.six;go_wp2_with fail;refine Calls.mono H4.out ?_;rintro e w4 ⟨c4,rfl,_,_,_,hx4⟩;have HZ4:Hid (Bz B hi w w4):=HZ3.out.trans (Bz.of_bx hx4 (by omega) (by omega));clear x0 x1 x2 x3 x4 x5 H4 hx4 bS3 HZ3;go_wp2_with fail;go_ret;exact ⟨_,rfl,by omega,by omega,HZ4.out⟩
end Go.Proofs.YtbdpcngcbnoioaaGreatDoor
