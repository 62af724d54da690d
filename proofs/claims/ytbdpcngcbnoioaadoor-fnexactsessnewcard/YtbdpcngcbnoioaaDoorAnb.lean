import Derived.Test.YtbdpcngcbnoioaaDoorAn7
set_option maxRecDepth 100000
set_option maxHeartbeats 4000000
namespace Go.Proofs.YtbdpcngcbnoioaaDoor
open Go.RowKit Go.Shelf
def RT.upto (t:RT):Nat->Nat
 | 0=>0
 | k+1=>t.upto k+(t.f k).nds
theorem RT.nds_eq (t:RT):t.nds=t.m+t.upto t.m:=by
 rcases t with _|⟨k,n,m,f⟩
 ·rfl
 have h:∀ j,((List.range j).map fun i=>(f i).nds).sum=RT.upto (.mk k n m f) j:=by
  intro j
  induction j with
  | zero=>rfl
  | succ j ih=>rw [List.range_succ,List.map_append,List.sum_append,ih];simp [RT.upto,RT.f]
 show m+_=m+_
 rw [h];rfl
theorem RT.upto_le (t:RT) {j k:Nat} (h:j<=k):t.upto j<=t.upto k:=by
 induction k with
 | zero =>
  obtain rfl:j=0:=by omega
  exact Nat.le_refl _
 | succ k ih =>
  rcases Nat.lt_or_ge k j with h1|h1
  ·obtain rfl:j=k+1:=by omega
   exact Nat.le_refl _
  ·have:=ih h1
   show _<=t.upto k+_
   omega
def szN (left:Int) (n:Nat):Int:=if left<n then -1 else left-n
abbrev LeftPost (left:Int) (n:Nat) (w:World) (e:Ending) (w':World):Prop:=e= .returned (.int .i64 (szN left n))/\Below w.heap.size w w'
theorem szPlanS_rstep {t:RT} {B:Nat} {s:Value} {w:World} {left:Int} (h0:0<=left) (h1:left<=1048576) (hs:RdS B w t s)
  (hrec:∀ i,i<t.m->∀ (W:World) (u:Value) (l:Int),0<=l->l<=1048576->RdS B W (t.f i) u->Calls Tryd.prog 4 #[pl (t.f i).k (t.f i).n u, .int .i64 l] W (LeftPost l (t.f i).nds W)) :
  Calls Tryd.prog 13 #[s, .int .i64 left] w (LeftPost left t.nds w):=by
 have HR:=(show Hid _ from hrec);have HS:=(show Hid (RdS B w t s) from hs);obtain ⟨a,c,rfl,hm1,hm2⟩:=hs.sl;have htl:t.m<=9223372036854775807:=by unfold maxLen at hm2;omega
 have hnd:=t.nds_eq;have HU:=(show Hid _ from fun (j:Nat) (h:j<=t.m)=>t.upto_le h);clear hs hrec hm1 hm2
 by_cases hb:left<(t.m:Int)
 ·have hz:szN left t.nds = -1:=by unfold szN;rw [if_pos (by omega)]
  have e1:left-(t.m:Int)<0:=by omega
  have e2 : -9223372036854775808<=left-(t.m:Int):=by omega
  clear hnd HU;go_enter Tryd.func13,Tryd.ntmps13;go_wp2_with fail;go_ret;exact ⟨by rw [hz]<;>rfl,Below.refl _ _⟩
 ·have e1:¬ (left-(t.m:Int)<0):=by omega
  have HND:=(show Hid (t.nds=t.m+t.upto t.m) from hnd);clear hnd;go_enter Tryd.func13,Tryd.ntmps13;go_wp2_with fail
  go_loopw [1,5] (fun l i wr=>∃ k:Nat,i= .int .i64 k/\k<=t.m/\l= .int .i64 (left-t.m-t.upto k)/\0<=left-t.m-t.upto k/\Below w.heap.size w wr) (fun _ i _=>t.m-(intOf i).toNat)
  case atStart=>exact ⟨0,rfl,Nat.zero_le _,by simp [RT.upto],by simp [RT.upto];omega,Below.refl _ _⟩
  case round =>
   obtain ⟨k,rfl,hkl,rfl,hl0,hb2⟩:=hrel;obtain ⟨l,hl⟩:∃ l:Int,left-t.m-t.upto k=l:=⟨_,rfl⟩;have HL:=(show Hid (left-t.m-t.upto k=l) from hl);rw [hl] at hl0 ⊢;clear hl;have hl1:l<=1048576:=by have:=HL.out;omega
   by_cases hlt:k<t.m
   ·have ik:((k:Int)<(t.m:Int)):=by omega
    obtain ⟨g,off,b2,d2,rfl,hgl,c0,c1,c2,hkid⟩:=(HS.out.keep hb2).at hlt;have HK:=(show Hid _ from HR.out k hlt wr _ l hl0 hl1 hkid);have HU1:=HU.out (k+1) hlt;have HUk:Hid (t.upto (k+1)=t.upto k+(t.f k).nds):=rfl;have HU2:=(show Hid (t.upto (k+1)<=t.upto t.m) from HU1);clear hkid HU1;go_wp2_with fail;refine Calls.mono HK.out ?_;rintro e w7 ⟨rfl,hb7⟩;have hbf:=bSz hb2 hb7;clear c0 c1 c2 HK
    by_cases hq:l<((t.f k).nds:Int)
    ·have hz:szN l (t.f k).nds = -1:=by unfold szN;rw [if_pos hq]
     have hz2:szN left t.nds = -1:=by
      have h3:=HU2.out;have h4:=HUk.out;have h5:=HL.out;have h6:=HND.out;unfold szN;rw [if_pos (by omega)]
     rw [hz];go_wp2_with fail;go_ret;exact ⟨by rw [hz2]<;>rfl,hbf⟩
    ·have hz:szN l (t.f k).nds=l-(t.f k).nds:=by unfold szN;rw [if_neg hq]
     obtain ⟨l2,hl2⟩:∃ l2:Int,l-(t.f k).nds=l2:=⟨_,rfl⟩;have hl3:¬ l2<0:=by omega
     have HL2:Hid (left-t.m-t.upto (k+1)=l2):=by
      show left-t.m-t.upto (k+1)=l2
      have h4:=HUk.out;have h5:=HL.out;omega
     rw [hz,hl2];clear hz hl2 hq;go_wp2_with fail;go_roundw
     case rel=>exact ⟨k+1,by go_num,by omega,by rw [HL2.out],by rw [HL2.out];omega,hbf⟩
     case measure=>simp [intOf];omega
   ·have hke:k=t.m:=by omega
    have ik:¬ ((k:Int)<(t.m:Int)):=by omega
    have hz:szN left t.nds=l:=by
     have h5:=HL.out;have h6:=HND.out;subst hke;unfold szN;rw [if_neg (by omega)];omega
    go_wp2_with fail;go_ret;exact ⟨by rw [hz]<;>rfl,hb2⟩
theorem szPlan_rone {t:RT} {B:Nat} {s:Value} {w:World} {left:Int} (_h0:0<=left) (_h1:left<=1048576) (hs:RdS B w t s)
  (hrec:∀ (W:World),RdS B W t s->Calls Tryd.prog 13 #[s, .int .i64 left] W (LeftPost left t.nds W)) :
  Calls Tryd.prog 4 #[pl t.k t.n s, .int .i64 left] w (LeftPost left t.nds w):=by
 obtain ⟨nd,hnd⟩:∃ nd,t.nds=nd:=⟨_,rfl⟩;rw [hnd] at hrec ⊢;have bA:Bk (w.alloc (.cells #[.int .i64 t.k, .int .i64 t.n,s] 24)) w.heap.size #[.int .i64 t.k, .int .i64 t.n,s] 24:=Bk.new _ _ rfl;have hb0:Below w.heap.size w (w.alloc (.cells #[.int .i64 t.k, .int .i64 t.n,s] 24)):=bAz (Below.refl _ _) _;have HC:=(show Hid _ from hrec _ (hs.keep hb0));obtain ⟨a,c,rfl,_,_⟩:=hs.sl;obtain ⟨x0,x1,x2⟩:=bA.three';clear hs hrec bA hnd;go_enter Tryd.func4,Tryd.ntmps4;go_wp2_with fail;refine Calls.mono HC.out ?_;rintro e w1 ⟨rfl,hb1⟩;have hbf:=bSz hb0 hb1
 by_cases hq:left<(nd:Int)
 ·have hz:szN left nd = -1:=by unfold szN;rw [if_pos hq]
  have HZ:=(show Hid (szN left nd = -1) from hz);rw [hz];clear hz;go_wp2_with fail;go_ret;exact ⟨by rw [HZ.out]<;>rfl,hbf⟩
 ·have hz:szN left nd=left-nd:=by unfold szN;rw [if_neg hq]
  obtain ⟨l2,hl2⟩:∃ l2:Int,left-nd=l2:=⟨_,rfl⟩;have hl3:¬ l2<0:=by omega
  have HZ:=(show Hid (szN left nd=l2) from hz.trans hl2);rw [hz,hl2];clear hz hl2 hq;go_wp2_with fail;go_ret;exact ⟨by rw [HZ.out]<;>rfl,hbf⟩
theorem szPlanS_rt:∀ (t:RT) {B:Nat} {s:Value} {w:World} {left:Int},0<=left->left<=1048576->RdS B w t s->Calls Tryd.prog 13 #[s, .int .i64 left] w (LeftPost left t.nds w)
 | .nil,_,_,_,_,_,_,hs=>hs.elim
 | .mk _ _ _ f,_,_,_,_,h0,h1,hs=>szPlanS_rstep h0 h1 hs fun i _ _ _ _ h2 h3 h=>szPlan_rone (t:=f i) h2 h3 h fun _ h=>szPlanS_rt (f i) h2 h3 h
theorem szPlan_rt (t:RT) {B:Nat} {s:Value} {w:World} {left:Int} (h0:0<=left) (h1:left<=1048576) (hs:RdS B w t s):Calls Tryd.prog 4 #[pl t.k t.n s, .int .i64 left] w (LeftPost left t.nds w) :=
 szPlan_rone h0 h1 hs fun _ h=>szPlanS_rt t h0 h1 h
end Go.Proofs.YtbdpcngcbnoioaaDoor
set_option maxRecDepth 100000
set_option maxHeartbeats 8000000
namespace Go.Proofs.YtbdpcngcbnoioaaDoor
open Go.RowKit Go.Shelf
def RdF (B:Nat) (w:World):RT->Value->Prop
 | .nil,_=>False
 | .mk _ _ m f,s=>∃ (g c:Nat) (cs:Array Value),s= .slice (some ⟨g,0,none⟩) m c/\m<=c/\c<=maxLen/\B<=g/\Bk w g cs 28/\∀ i,i<m->cs[i*3]?=some (.int .i64 (f i).k)/\cs[i*3+1]?=some (.int .i64 (f i).n)/\∃ sx,cs[i*3+2]?=some sx/\RdF B w (f i) sx
theorem RdF.rd {B:Nat} {w:World}:∀ {t:RT} {s:Value},RdF B w t s->RdS B w t s
 | .nil,_,h=>h.elim
 | .mk _ _ _ f,_,⟨g,c,cs,e,h1,h2,hg,hb,h⟩=>⟨_,c,e,h1,h2,fun i hi=>by
  obtain ⟨q0,q1,sx,q2,hx⟩:=h i hi;exact ⟨g,0,sx,rfl,hg,by rw [Nat.zero_add];exact hb.cell q0,by rw [Nat.zero_add];exact hb.cell q1,by rw [Nat.zero_add];exact hb.cell q2,RdF.rd hx⟩⟩
theorem RdF.move {B:Nat} {w w':World} (H:∀ x,B<=x->x<w.heap.size->w'.heap[x]?=w.heap[x]?):∀ {t:RT} {s:Value},RdF B w t s->RdF B w' t s
 | .nil,_,h=>h.elim
 | .mk _ _ _ f,_,⟨g,c,cs,e,h1,h2,hg,hb,h⟩=>⟨g,c,cs,e,h1,h2,hg,by unfold Bk;rw [H g hg hb.lt];exact hb,fun i hi=>by
  obtain ⟨q0,q1,sx,q2,hx⟩:=h i hi;exact ⟨q0,q1,sx,q2,RdF.move H hx⟩⟩
theorem RdF.less {B B':Nat} {w:World} (hB:B'<=B):∀ {t:RT} {s:Value},RdF B w t s->RdF B' w t s
 | .nil,_,h=>h.elim
 | .mk _ _ _ f,_,⟨g,c,cs,e,h1,h2,hg,hb,h⟩=>⟨g,c,cs,e,h1,h2,Nat.le_trans hB hg,hb,fun i hi=>by
  obtain ⟨q0,q1,sx,q2,hx⟩:=h i hi;exact ⟨q0,q1,sx,q2,RdF.less hB hx⟩⟩
def FillR (B:Nat) (wr:World) (t:RT) (c:Array Value) (k:Nat):Prop :=
 ∀ i,i<k->c[i*3]?=some (.int .i64 (t.f i).k)/\c[i*3+1]?=some (.int .i64 (t.f i).n)/\∃ sx,c[i*3+2]?=some sx/\RdF B wr (t.f i) sx
theorem FillR.step {B:Nat} {wr w1:World} {t:RT} {c:Array Value} {k:Nat} {s:Value} (h:FillR B wr t c k) (hm:∀ x,B<=x->x<wr.heap.size->w1.heap[x]?=wr.heap[x]?) (hs:RdF B w1 (t.f k) s) (hc:k*3+2<c.size) :
  FillR B w1 t (((c.setIfInBounds (k*3) (.int .i64 (t.f k).k)).setIfInBounds (k*3+1) (.int .i64 (t.f k).n)).setIfInBounds (k*3+2) s) (k+1):=by
 intro i hi
 rcases Nat.lt_or_ge i k with h1|h1
 ·obtain ⟨e1,e2,sx,e3,hx⟩:=h i h1;refine ⟨?_,?_,sx,?_,hx.move hm⟩
  ·rw [Array.getElem?_setIfInBounds_ne (by omega),Array.getElem?_setIfInBounds_ne (by omega),Array.getElem?_setIfInBounds_ne (by omega)];exact e1
  ·rw [Array.getElem?_setIfInBounds_ne (by omega),Array.getElem?_setIfInBounds_ne (by omega),Array.getElem?_setIfInBounds_ne (by omega)];exact e2
  ·rw [Array.getElem?_setIfInBounds_ne (by omega),Array.getElem?_setIfInBounds_ne (by omega),Array.getElem?_setIfInBounds_ne (by omega)];exact e3
 ·obtain rfl:i=k:=by omega
  refine ⟨?_,?_,s,?_,hs⟩
  ·rw [Array.getElem?_setIfInBounds_ne (by omega),Array.getElem?_setIfInBounds_ne (by omega),Array.getElem?_setIfInBounds_self_of_lt (by omega)]
  ·rw [Array.getElem?_setIfInBounds_ne (by omega),Array.getElem?_setIfInBounds_self_of_lt (by simp;omega)]
  ·rw [Array.getElem?_setIfInBounds_self_of_lt (by simp;omega)]
theorem infoP:(Tryd.prog.info? 28).map (fun i=>(i.zero,i.size,i.bytes))=some (some (.agg #[.int .i64 0, .int .i64 0, .slice none 0 0]),3,40):=by kernel_rfl
theorem make_plans (n:Nat) (hn:n<=2097152):∃ M:Array Value,M.size=n*3/\∀ u:World,(Instr.makeSlice 26 (.int .i64 (n:Int)) (.int .i64 (n:Int))).run Tryd.prog u= .ok (.slice (some ⟨u.heap.size,0,none⟩) n n) (u.alloc (.cells M 28)):=by
 obtain ⟨i0,hi,hz0,hz1,hz2⟩:=pl_info infoP;refine ⟨madeCells (Value.agg #[.int .i64 0, .int .i64 0, .slice none 0 0]).cells (n*i0.size),by rw [size_madeCells,hz1],fun u=>?_⟩;have:=run_make (P:=Tryd.prog) u 26 28 i0 _ Tryd.underlying26 hi hz0 .i64 .i64 (n:Int) (n:Int) (by omega) (by omega) (by rw [hz2];omega) (by omega)
 simpa using this
abbrev MadeRT (t:RT) (w:World) (e:Ending) (w':World):Prop:=∃ b d,e= .returned (.slice b t.m d)/\RdF w.heap.size w' t (.slice b t.m d)/\Below w.heap.size w w'
theorem toPlanS_rstep {t:RT} {B:Nat} {s:Value} {w:World} (hn:t.m<=1048576) (hs:RdS B w t s)
  (hrec:∀ i,i<t.m->∀ (W:World) (u:Value),RdS B W (t.f i) u->Calls Tryd.prog 6 #[pl (t.f i).k (t.f i).n u] W fun e w'=>∃ b d,e= .returned (pl (t.f i).k (t.f i).n (.slice b (t.f i).m d))/\RdF W.heap.size w' (t.f i) (.slice b (t.f i).m d)/\Below W.heap.size W w') :
  Calls Tryd.prog 16 #[s] w (MadeRT t w):=by
 have HR:=(show Hid _ from hrec);have HS:=(show Hid (RdS B w t s) from hs);obtain ⟨a,c,rfl,hm1,hm2⟩:=hs.sl;obtain ⟨M,hM,hmk⟩:=make_plans t.m (by omega);have HM:=(show Hid (M.size=t.m*3) from hM);clear hs hrec hm1 hm2 hM;go_enter Tryd.func16,Tryd.ntmps16;go_wp2_with fail
 go_loopw [4] (fun i wr=>∃ (k:Nat) (c:Array Value),k<=t.m/\i= .int .i64 k/\Bk wr w.heap.size c 28/\c.size=t.m*3/\FillR (w.heap.size+1) wr t c k/\Below w.heap.size w wr) (fun i _=>t.m-(intOf i).toNat)
 case atStart=>exact ⟨0,M,by omega,rfl,Bk.new _ _ rfl,HM.out,fun i hi=>by omega,bAz (Below.refl _ _) _⟩
 case round =>
  obtain ⟨k,c2,hk,rfl,hbk,hcs,hfill,hb⟩:=hrel;have HF:=(show Hid (FillR (w.heap.size+1) wr t c2 k) from hfill);have HC:=(show Hid (c2.size=t.m*3) from hcs);clear hfill hcs
  by_cases hlt:k<t.m
  ·have ik:((k:Int)<(t.m:Int)):=by omega
   obtain ⟨g,off,b2,d2,rfl,hgl,c0,c1,c2',hkid⟩:=(HS.out.keep hb).at hlt;have HK:=(show Hid _ from HR.out k hlt wr _ hkid);have hgw:=hbk.lt;clear hkid;go_wp2_with fail;refine Calls.mono HK.out ?_;rintro e w1 ⟨b3,d3,rfl,hnew,hb1⟩;have HN:=(show Hid (RdF wr.heap.size w1 (t.f k) (.slice b3 (t.f k).m d3)) from hnew);have bk1:=hbk.keep hb1;have hbw:=bSz hb hb1;have hs:=HC.out;obtain ⟨y0,q0⟩:∃ y,w1.cell? ⟨w.heap.size,k*3,none⟩=some y:=⟨_,bk1.cell (Array.getElem?_eq_getElem (show k*3<c2.size by omega))⟩;obtain ⟨y1,q1⟩:∃ y,w1.cell? ⟨w.heap.size,k*3+1,none⟩=some y:=⟨_,bk1.cell (Array.getElem?_eq_getElem (show k*3+1<c2.size by omega))⟩;obtain ⟨y2,q2⟩:∃ y,w1.cell? ⟨w.heap.size,k*3+2,none⟩=some y:=⟨_,bk1.cell (Array.getElem?_eq_getElem (show k*3+2<c2.size by omega))⟩;have f0:=bk1.free (k*3);have f1:=bk1.free (k*3+1);have f2:=bk1.free (k*3+2);clear hs c0 c1 c2' HK hnew;go_wp2_with fail;go_roundw
   case rel =>
    have bk2:=((bk1.set (k*3) (.int .i64 (t.f k).k)).set (k*3+1) (.int .i64 (t.f k).n)).set (k*3+2) (.slice b3 (t.f k).m d3);have hset:∀ x,w.heap.size+1<=x->(((w1.setCell ⟨w.heap.size,k*3,none⟩ (.int .i64 (t.f k).k)).setCell ⟨w.heap.size,k*3+1,none⟩ (.int .i64 (t.f k).n)).setCell ⟨w.heap.size,k*3+2,none⟩ (.slice b3 (t.f k).m d3)).heap[x]?=w1.heap[x]?:=fun x hx=>by
     have hz:x≠w.heap.size:=by omega
     exact ((Below.heap_setCell _ _ _ _ hz).trans (Below.heap_setCell _ _ _ _ hz)).trans (Below.heap_setCell _ _ _ _ hz)
    refine ⟨k+1,_,by omega,by go_num,bk2,?_,FillR.step HF.out (fun x hx hxl=>(hset x hx).trans (hb1.block x hxl)) (RdF.less (by omega) (HN.out.move fun x hx _=>hset x (by omega))) (by have:=HC.out;omega),?_⟩
    ·simpa using HC.out
    ·exact ((hbw.setCell (by simp) _).setCell (by simp) _).setCell (by simp) _
   case measure=>simp [intOf];omega
  ·have hke:k=t.m:=by omega
   subst hke;have ik:¬ ((t.m:Int)<(t.m:Int)):=by omega
   have HX:Hid (RdF w.heap.size wr t (.slice (some ⟨w.heap.size,0,none⟩) t.m t.m)):=by
    have hF:=HF.out;have hS:=HS.out
    rcases t with _|⟨kk,nn,mm,ff⟩
    ·exact hS.elim
    clear hS;refine ⟨_,_,_,rfl,Nat.le_refl _,by unfold maxLen;exact Nat.le_trans hn (by omega),Nat.le_refl _,hbk,fun i hi=>?_⟩;obtain ⟨e1,e2,sx,e3,hx⟩:=hF i hi;exact ⟨e1,e2,sx,e3,RdF.less (by omega) hx⟩
   go_wp2_with fail;go_ret;exact ⟨_,_,rfl,HX.out,hb⟩
end Go.Proofs.YtbdpcngcbnoioaaDoor
