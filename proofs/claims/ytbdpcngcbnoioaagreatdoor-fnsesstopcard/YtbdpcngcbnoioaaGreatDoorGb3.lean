import Derived.Test.YtbdpcngcbnoioaaGreatDoorGb1
import Derived.Sort.Grow
set_option maxRecDepth 100000
set_option maxHeartbeats 16000000
namespace Go.Proofs.YtbdpcngcbnoioaaGreatDoor
open Go.RowKit
open Go.Proofs.Tryz renaming prog->fM,ntmps159->fQ,func159->gD,ntmps97->gM,func97->gQ,ntmps184->gX,ntmps151->iM,ntmps136->iP,ntmps30->jB,func184->jO,func151->mO,func136->nA,func30->nB
open Go renaming World->nT,wpQuiet_nil->nX,Calls->oU,Value->oW,wpList_append_lies->pU,IntKind->qV,info_parts->sD,Operand->tJ
open Go.RowKit renaming Below->tK
open _root_.List renaming getElem?_eq_some_iff->tL,take_length->tM,drop_eq_nil_of_le->tN,length_take_le->xU,flatMap_append->xV,filter_append->AP,append_assoc->AW
open Go.RowKit.Below renaming refl->C5
open Go.IntKind renaming wrap_i64->Df,i64->E8
open Go.World renaming alloc->Fj
variable {B g k n:Nat}{D a' b b' k' v v':Int}{t:TypeId}{w:nT}
def iX (a b:Int):Int:=if a<b then -1 else if a>b then 1 else 0
theorem yJ (a:Int)(w:nT):oU fM 167 #[.int .i64 a] w fun e w'=>e=.returned (.bool false)/\w'=w:=by
 go_enter Tryz.func167,Tryz.ntmps167
 go_wp2
 go_ret;exact⟨rB (by simp),rfl⟩
theorem uW (a b:Int)(w:nT):oU fM 97 #[.int .i64 a,.int .i64 b] w fun e w'=>e=.returned (.int .i64 (iX a b))/\w'=w:=by
 by_cases h1:a<b
 ·have e:iX a b = -1:=by simp[iX,h1]
  go_enter gQ,gM
  go_wp2_with (go_at_call 167;refine (yJ _ _).mono ?_;rintro e w' ⟨rfl,rfl⟩)
  go_ret;exact⟨by rw[e];rfl,rfl⟩
 by_cases h2:a>b
 ·have e:iX a b=1:=by simp[iX,h1,h2]
  go_enter gQ,gM
  go_wp2_with (go_at_call 167;refine (yJ _ _).mono ?_;rintro e w' ⟨rfl,rfl⟩)
  go_ret;exact⟨by rw[e];rfl,rfl⟩
 ·have e:iX a b=0:=by simp[iX,h1,h2]
  go_enter gQ,gM
  go_wp2_with (go_at_call 167;refine (yJ _ _).mono ?_;rintro e w' ⟨rfl,rfl⟩)
  go_ret;exact⟨by rw[e];rfl,rfl⟩
theorem CO {k:qV}{a:Int}(h:a=b):Ending.returned (.int k a)=.returned (.int k b):=by rw[h]
def pM (x y:Int):Int:=if x=0 then y else x
theorem Hx (g:Nat)(x y:Int)(w:nT)(s:w.cell? ⟨g,0,none⟩=some (.int .i64 x))(c1:w.cell? ⟨g,1,none⟩=some (.int .i64 y)):
  oU fM 159 #[.slice (some ⟨g,0,none⟩) 2 2] w fun e w'=>e=.returned (.int .i64 (pM x y))/\w'=w:=by
 have H:Hid (pM x y=if x=0 then y else x):=rfl
 by_cases h0:x=0
 ·subst h0
  by_cases h1:y=0
  ·subst h1;go_enter gD,fQ;go_wp2_with fail
   go_rounds 3
   go_returns
   exact⟨rfl,rfl⟩
  ·have n1:(y==0)=false:=by simpa using h1
   go_enter gD,fQ;go_wp2_with fail
   go_rounds 3
   go_returns
   exact⟨rfl,rfl⟩
 ·have n0:(x==0)=false:=by simpa using h0
  go_enter gD,fQ;go_wp2_with fail
  go_rounds 3
  go_returns
  exact⟨CO (by rw[H.out,if_neg h0]),rfl⟩
theorem P5 (g:Nat)(x y z:Int)(w:nT)(s:w.cell? ⟨g,0,none⟩=some (.int .i64 x))(c1:w.cell? ⟨g,1,none⟩=some (.int .i64 y))(c2:w.cell? ⟨g,2,none⟩=some (.int .i64 z)):
  oU fM 159 #[.slice (some ⟨g,0,none⟩) 3 3] w fun e w'=>e=.returned (.int .i64 (pM x (pM y z)))/\w'=w:=by
 have H:Hid (pM x (pM y z)=if x=0 then (if y=0 then z else y) else x):=rfl
 by_cases h0:x=0
 ·subst h0
  by_cases h1:y=0
  ·subst h1
   by_cases h2:z=0
   ·subst h2;go_enter gD,fQ;go_wp2_with fail
    go_rounds 4
    go_returns
    exact⟨rfl,rfl⟩
   ·have n2:(z==0)=false:=by simpa using h2
    go_enter gD,fQ;go_wp2_with fail
    go_rounds 4
    go_returns
    exact⟨rfl,rfl⟩
  ·have n1:(y==0)=false:=by simpa using h1
   go_enter gD,fQ;go_wp2_with fail
   go_rounds 4
   go_returns
   exact⟨CO (by rw[H.out];simp[h1]),rfl⟩
 ·have n0:(x==0)=false:=by simpa using h0
  go_enter gD,fQ;go_wp2_with fail
  go_rounds 4
  go_returns
  exact⟨CO (by rw[H.out,if_neg h0]),rfl⟩
attribute [local go_sem ↓] Go.wp_at_zero Go.wp_at_succ
def Gr (w w':nT):Prop:=tK w.heap.size w w'/\w.drawn<=w'.drawn
theorem Hj {w':nT}(h:Gr w w'):∃q os,w'=Go.Sort.grow (w.drewN q) os:=by
 obtain⟨s,hd⟩:=h;refine⟨w'.drawn-w.drawn,(w'.heap.toList.drop w.heap.size).toArray,?_⟩;have A:w'.heap=w.heap++(w'.heap.toList.drop w.heap.size).toArray:=by
  apply Array.ext_getElem?
  intro i
  by_cases hi:i<w.heap.size
  ·rw[s.block i hi,Array.getElem?_append_left hi]
  ·rw[Array.getElem?_append_right (by omega)];simp
   congr 1
   omega
 obtain⟨h1,h2,h3,h4,h5⟩:=w';simp only[Go.Sort.grow,nT.drewN]
 congr 1
 ·exact s.tape
 ·show h3=w.drawn+(h3-w.drawn);have:w.drawn<=h3:=hd;omega
 ·exact s.os
 ·exact s.output
theorem Gr.refl (w:nT):Gr w w:=⟨C5 _ _,Nat.le_refl _⟩
theorem Gr.trans {a b c:nT}(h:Gr a b)(k:Gr b c):Gr a c:=⟨aG h.1 k.1,Nat.le_trans h.2 k.2⟩
theorem Gr.alloc {a b:nT}(h:Gr a b)(o:Obj):Gr a (b.alloc o):=⟨aH h.1 o,h.2⟩
theorem Gr.drew {a b:nT}(h:Gr a b):Gr a b.drew:=⟨h.1.drew,Nat.le_succ_of_le h.2⟩
theorem yC (a b c d:Int)(w:nT):
  oU fM 160 #[tv a b,tv c d] w fun e w'=>e=.returned (.int .i64 (pM (iX a c) (iX b d)))/\Gr w w':=by
 have A:=(Bk.new (w:=w) #[.int .i64 a,.int .i64 b] 32 rfl).alloc (.cells #[.int .i64 c,.int .i64 d] 32);have s:=Bk.new (w:=w.alloc (.cells #[.int .i64 a,.int .i64 b] 32)) (k:=w.heap.size+1) #[.int .i64 c,.int .i64 d] 32 (by simp);have hg:=((Gr.refl w).alloc (.cells #[.int .i64 a,.int .i64 b] 32)).alloc (.cells #[.int .i64 c,.int .i64 d] 32);go_enter Tryz.func160,Tryz.ntmps160;go_wp2_with fail;generalize Fj _ _=W at*;have G:Hid (∀w',tK W.heap.size W w'->w'.cell? ⟨w.heap.size,0,none⟩=some (.int .i64 a)/\w'.cell? ⟨w.heap.size,1,none⟩=some (.int .i64 b)/\w'.cell? ⟨w.heap.size+1,0,none⟩=some (.int .i64 c)/\w'.cell? ⟨w.heap.size+1,1,none⟩=some (.int .i64 d)):=
  fun w' h=>⟨(A.keep h).two.1,(A.keep h).two.2.1,(s.keep h).two.1,(s.keep h).two.2.1⟩
 have H:tK W.heap.size W W.drew:=(C5 _ _).drew;clear A s
 go_region_held3 (fun w'=>w'.cell? ⟨w.heap.size,0,none⟩=some (.int .i64 a)/\w'.cell? ⟨w.heap.size,1,none⟩=some (.int .i64 b)/\w'.cell? ⟨w.heap.size+1,0,none⟩=some (.int .i64 c)/\w'.cell? ⟨w.heap.size+1,1,none⟩=some (.int .i64 d))
  (first|exact G.out _ (by with_reducible assumption)|exact G.out _ (aH (by with_reducible assumption) _))
  (first
   | (go_at_call 97;refine (uW _ _ _).mono ?_;rintro e w' ⟨rfl,rfl⟩)
   | (go_at_call 159;refine (Hx _ _ _ _ (Bk.new _ _ rfl).drew.two.1 (Bk.new _ _ rfl).drew.two.2.1).mono ?_;rintro e w' ⟨rfl,rfl⟩))
 go_wp2_with fail;go_ret;exact⟨rfl,(hg.alloc _).drew⟩
theorem yA (a b c x y z:Int)(w:nT):
  oU fM 143 #[iv a b c,iv x y z] w fun e w'=>e=.returned (.int .i64 (pM (iX a x) (iX b y)))/\Gr w w':=by
 have A:=(Bk.new (w:=w) #[.int .i64 a,.int .i64 b,.int .i64 c] 98 rfl).alloc (.cells #[.int .i64 x,.int .i64 y,.int .i64 z] 98);have s:=Bk.new (w:=w.alloc (.cells #[.int .i64 a,.int .i64 b,.int .i64 c] 98)) (k:=w.heap.size+1) #[.int .i64 x,.int .i64 y,.int .i64 z] 98 (by simp);have hg:=((Gr.refl w).alloc (.cells #[.int .i64 a,.int .i64 b,.int .i64 c] 98)).alloc (.cells #[.int .i64 x,.int .i64 y,.int .i64 z] 98);go_enter Tryz.func143,Tryz.ntmps143;go_wp2_with fail;generalize Fj _ _=W at*;have G:Hid (∀w',tK W.heap.size W w'->w'.cell? ⟨w.heap.size,0,none⟩=some (.int .i64 a)/\w'.cell? ⟨w.heap.size,1,none⟩=some (.int .i64 b)/\w'.cell? ⟨w.heap.size+1,0,none⟩=some (.int .i64 x)/\w'.cell? ⟨w.heap.size+1,1,none⟩=some (.int .i64 y)):=
  fun w' h=>⟨(A.keep h).three.1,(A.keep h).three.2.1,(s.keep h).three.1,(s.keep h).three.2.1⟩
 have H:tK W.heap.size W W.drew:=(C5 _ _).drew;clear A s
 go_region_held3 (fun w'=>w'.cell? ⟨w.heap.size,0,none⟩=some (.int .i64 a)/\w'.cell? ⟨w.heap.size,1,none⟩=some (.int .i64 b)/\w'.cell? ⟨w.heap.size+1,0,none⟩=some (.int .i64 x)/\w'.cell? ⟨w.heap.size+1,1,none⟩=some (.int .i64 y))
  (first|exact G.out _ (by with_reducible assumption)|exact G.out _ (aH (by with_reducible assumption) _))
  (first
   | (go_at_call 97;refine (uW _ _ _).mono ?_;rintro e w' ⟨rfl,rfl⟩)
   | (go_at_call 159;refine (Hx _ _ _ _ (Bk.new _ _ rfl).drew.two.1 (Bk.new _ _ rfl).drew.two.2.1).mono ?_;rintro e w' ⟨rfl,rfl⟩))
 go_wp2_with fail;go_ret;exact⟨rfl,(hg.alloc _).drew⟩
theorem yB (k v a b d k' v' a' b' G:Int)(w:nT):
  oU fM 91 #[rv k v a b d,rv k' v' a' b' G] w fun e w'=>e=.returned (.int .i64 (pM (iX k k') (pM (iX v v') (pM (iX a a') (iX b b')))))/\Gr w w':=by
 have A:=(Bk.new (w:=w) #[.int .i64 k,.int .i64 v,.int .i64 a,.int .i64 b,.int .i64 d] 55 rfl).alloc (.cells #[.int .i64 k',.int .i64 v',.int .i64 a',.int .i64 b',.int .i64 G] 55);have s:=Bk.new (w:=w.alloc (.cells #[.int .i64 k,.int .i64 v,.int .i64 a,.int .i64 b,.int .i64 d] 55)) (k:=w.heap.size+1) #[.int .i64 k',.int .i64 v',.int .i64 a',.int .i64 b',.int .i64 G] 55 (by simp);have hg:=((Gr.refl w).alloc (.cells #[.int .i64 k,.int .i64 v,.int .i64 a,.int .i64 b,.int .i64 d] 55)).alloc (.cells #[.int .i64 k',.int .i64 v',.int .i64 a',.int .i64 b',.int .i64 G] 55);go_enter Tryz.func91,Tryz.ntmps91;go_wp2_with fail;generalize Fj _ _=W at*;have L:Hid (∀w',tK W.heap.size W w'->(w'.cell? ⟨w.heap.size,0,none⟩=some (.int .i64 k)/\w'.cell? ⟨w.heap.size,1,none⟩=some (.int .i64 v)/\w'.cell? ⟨w.heap.size,2,none⟩=some (.int .i64 a)/\w'.cell? ⟨w.heap.size,3,none⟩=some (.int .i64 b)) /\
   w'.cell? ⟨w.heap.size+1,0,none⟩=some (.int .i64 k')/\w'.cell? ⟨w.heap.size+1,1,none⟩=some (.int .i64 v')/\w'.cell? ⟨w.heap.size+1,2,none⟩=some (.int .i64 a')/\w'.cell? ⟨w.heap.size+1,3,none⟩=some (.int .i64 b')):=
  fun w' h=>⟨⟨(A.keep h).ag.1,(A.keep h).ag.2.1,(A.keep h).ag.2.2.1,(A.keep h).ag.2.2.2.1⟩,(s.keep h).ag.1,(s.keep h).ag.2.1,(s.keep h).ag.2.2.1,(s.keep h).ag.2.2.2.1⟩
 have O:tK W.heap.size W W.drew:=(C5 _ _).drew;have J:Gr W W.drew:=(Gr.refl _).drew;clear A s
 go_region_held3 (fun w'=>(w'.cell? ⟨w.heap.size,0,none⟩=some (.int .i64 k)/\w'.cell? ⟨w.heap.size,1,none⟩=some (.int .i64 v)/\w'.cell? ⟨w.heap.size,2,none⟩=some (.int .i64 a)/\w'.cell? ⟨w.heap.size,3,none⟩=some (.int .i64 b)) /\
   w'.cell? ⟨w.heap.size+1,0,none⟩=some (.int .i64 k')/\w'.cell? ⟨w.heap.size+1,1,none⟩=some (.int .i64 v')/\w'.cell? ⟨w.heap.size+1,2,none⟩=some (.int .i64 a')/\w'.cell? ⟨w.heap.size+1,3,none⟩=some (.int .i64 b'))
  (first|exact L.out _ (by with_reducible assumption)|exact L.out _ (aH (by with_reducible assumption) _))
  (first
   | (go_at_call 97;refine (uW _ _ _).mono ?_;rintro e w' ⟨rfl,rfl⟩)
   | (go_at_call 160;refine (yC _ _ _ _ _).mono ?_;rintro e R ⟨rfl,I⟩;have H:=J.trans I;have M:=H.1)
   | (go_at_call 159;refine (P5 _ _ _ _ _ (Bk.new _ _ rfl).three.1 (Bk.new _ _ rfl).three.2.1 (Bk.new _ _ rfl).three.2.2).mono ?_;rintro e w' ⟨rfl,rfl⟩))
 go_wp2_with fail;go_ret;exact⟨rfl,(hg.trans H).alloc _⟩
theorem Hf (a c b d:Int):pM (iX a c) (iX b d)=y9 (a,b) (c,d):=by
 simp only[pM,iX,y9,bJ,decide_eq_true_eq]
 repeat' split
 all_goals omega
theorem Hd (k v a b k' v' a' b':Int):pM (iX k k') (pM (iX v v') (pM (iX a a') (iX b b')))=iZ ((k,v),(a,b)) ((k',v'),(a',b')):=by
 simp only[pM,iX,iZ,vO]
 repeat' split
 all_goals omega
def gZ (x0 x1 x2 x3:Int)(i:Nat):Int:=if i=0 then x0 else if i=1 then x1 else if i=2 then x2 else x3
theorem Kl {k a:Int}(hn:n<4)(h:∀j,j<n->gZ k v a b j=gZ k' v' a' b' j)(hl:gZ k v a b n<gZ k' v' a' b' n):iZ ((k,v),(a,b)) ((k',v'),(a',b')) = -1:=by
 have:aW ((k,v),(a,b)) ((k',v'),(a',b'))=true:=by
  rw[vO];obtain rfl|rfl|rfl|rfl:n=0\/n=1\/n=2\/n=3:=by omega
  ·simp[gZ]at hl;simp;omega
  ·have:=h 0 (by omega);simp[gZ]at hl this;simp;omega
  ·have:=h 0 (by omega);have:=h 1 (by omega);simp[gZ]at *;omega
  ·have:=h 0 (by omega);have:=h 1 (by omega);have:=h 2 (by omega);simp[gZ]at *;omega
 simp[iZ,this]
theorem Q2 {k a:Int}(hn:n<4)(h:∀j,j<n->gZ k v a b j=gZ k' v' a' b' j)(hl:gZ k' v' a' b' n<gZ k v a b n):iZ ((k,v),(a,b)) ((k',v'),(a',b'))=1:=by
 have h1:aW ((k',v'),(a',b')) ((k,v),(a,b))=true:=by
  have:=Kl hn (fun j s=>(h j s).symm) hl;unfold iZ at this;cases e:aW ((k',v'),(a',b')) ((k,v),(a,b))
  ·rw[e]at this;simp at this;split at this<;>omega
  ·rfl
 have h2:aW ((k,v),(a,b)) ((k',v'),(a',b'))=false:=by
  cases e:aW ((k,v),(a,b)) ((k',v'),(a',b'))
  ·rfl
  ·have:=fG.trans _ _ _ e h1;rw[fG.irr]at this;cases this
 simp[iZ,h1,h2]
theorem Q1 {k a:Int}(h:∀j,j<4->gZ k v a b j=gZ k' v' a' b' j):iZ ((k,v),(a,b)) ((k',v'),(a',b'))=0:=by
 have h0:=h 0 (by omega);have h1:=h 1 (by omega);have h2:=h 2 (by omega);have h3:=h 3 (by omega);simp[gZ]at h0 h1 h2 h3;subst h0 h1 h2 h3;simp[iZ,fG.irr]
theorem Bk.four {H G A s:Int}(h:Bk w g #[.int .i64 H,.int .i64 G,.int .i64 A,.int .i64 s] t)(hn:n<4):w.cell? ⟨g,n,none⟩=some (.int .i64 (gZ H G A s n)):=by
 obtain rfl|rfl|rfl|rfl:n=0\/n=1\/n=2\/n=3:=by omega
 all_goals exact h.cell rfl
theorem Ir (k v a b d k' v' a' b' J:Int)(w:nT):
  oU fM 187 #[rv k v a b d,rv k' v' a' b' J] w fun e w'=>e=.returned (.int .i64 (iZ ((k,v),(a,b)) ((k',v'),(a',b'))))/\tK w.heap.size w w':=by
 go_enter Tryz.func187,Tryz.ntmps187;go_wp2_with fail;have Z:=(Bk.new (w:=(w.alloc (.cells #[.int .i64 k,.int .i64 v,.int .i64 a,.int .i64 b,.int .i64 d] 55)).alloc (.cells #[.int .i64 k',.int .i64 v',.int .i64 a',.int .i64 b',.int .i64 J] 55)) (k:=w.heap.size+1+1) #[.int .i64 k,.int .i64 v,.int .i64 a,.int .i64 b] 3 (by simp)).alloc (.cells #[.int .i64 k',.int .i64 v',.int .i64 a',.int .i64 b'] 3);have R:=Bk.new (w:=((w.alloc (.cells #[.int .i64 k,.int .i64 v,.int .i64 a,.int .i64 b,.int .i64 d] 55)).alloc (.cells #[.int .i64 k',.int .i64 v',.int .i64 a',.int .i64 b',.int .i64 J] 55)).alloc (.cells #[.int .i64 k,.int .i64 v,.int .i64 a,.int .i64 b] 3)) (k:=w.heap.size+1+1+1) #[.int .i64 k',.int .i64 v',.int .i64 a',.int .i64 b'] 3 (by simp);have O:=aH (aH (aH (aH (C5 w.heap.size w) (.cells #[.int .i64 k,.int .i64 v,.int .i64 a,.int .i64 b,.int .i64 d] 55)) (.cells #[.int .i64 k',.int .i64 v',.int .i64 a',.int .i64 b',.int .i64 J] 55)) (.cells #[.int .i64 k,.int .i64 v,.int .i64 a,.int .i64 b] 3)) (.cells #[.int .i64 k',.int .i64 v',.int .i64 a',.int .i64 b'] 3);generalize Fj _ _=W at*;have U:Hid (∀n,n<4->(∀j,j<n->gZ k v a b j=gZ k' v' a' b' j)->gZ k v a b n<gZ k' v' a' b' n->iZ ((k,v),(a,b)) ((k',v'),(a',b')) = -1):=fun n h1 h2 h3=>Kl h1 h2 h3;have T:Hid (∀n,n<4->(∀j,j<n->gZ k v a b j=gZ k' v' a' b' j)->gZ k' v' a' b' n<gZ k v a b n->iZ ((k,v),(a,b)) ((k',v'),(a',b'))=1):=fun n h1 h2 h3=>Q2 h1 h2 h3;have S:Hid ((∀j,j<4->gZ k v a b j=gZ k' v' a' b' j)->iZ ((k,v),(a,b)) ((k',v'),(a',b'))=0):=fun h=>Q1 h
 go_loopw [7] (fun i wr=>∃n:Nat,n<=4/\i=.int .i64 n/\(∀j,j<n->gZ k v a b j=gZ k' v' a' b' j)/\tK W.heap.size W wr) (fun i _=>4-(intOf i).toNat)
 case atStart=>exact⟨0,by omega,rfl,fun j M=>by omega,C5 _ _⟩
 case round=>
  obtain⟨n,hn,rfl,H,I⟩:=hrel;have L:=(show Hid _ from H);clear H;have G:=aG O I
  by_cases A:n<4
  ·have d0:=(Z.keep I).four A;have d1:=(R.keep I).four A;have K1:=(show Hid _ from U.out n A L.out);have K2:=(show Hid _ from T.out n A L.out);have K3:Hid (gZ k v a b n=gZ k' v' a' b' n->∀j,j<n+1->gZ k v a b j=gZ k' v' a' b' j):=fun e j M=>by
    by_cases V:j=n
    ·rw[V];exact e
    ·exact L.out j (by omega)
   generalize gZ k v a b n=X at*;generalize gZ k' v' a' b' n=Y at*;have ik:((n:Int)<4):=by omega
   by_cases h1:X<Y
   ·have s:Hid (iZ ((k,v),(a,b)) ((k',v'),(a',b')) = -1):=K1.out h1;go_wp2_with fail
    go_quiet (fail)
    go_wp2_with fail;go_ret;exact⟨CO s.out.symm,dV G _⟩
   ·by_cases h2:Y<X
    ·have s:Hid (iZ ((k,v),(a,b)) ((k',v'),(a',b'))=1):=K2.out h2;go_wp2_with fail
     go_quiet (fail)
     go_wp2_with fail
     go_quiet (fail)
     go_wp2_with fail;go_ret;exact⟨CO s.out.symm,dV (dV G _) _⟩
    ·have s:=(show Hid _ from K3.out (by omega));go_wp2_with fail
     go_quiet (fail)
     go_wp2_with fail
     go_quiet (fail)
     go_wp2_with fail;go_roundw
     case rel=>exact⟨n+1,by omega,by go_num,s.out,dV I _⟩
     case measure=>simp[intOf];omega
  ·have s:Hid (iZ ((k,v),(a,b)) ((k',v'),(a',b'))=0):=S.out fun j M=>L.out j (by omega);go_wp2_with fail;go_ret;exact⟨CO s.out.symm,G⟩
theorem r6 {k a d s r:Int}(h:iZ ((k,v),(a,b)) ((k',v'),(a',b'))=r)(w:nT):
  oU fM 187 #[rv k v a b d,rv k' v' a' b' s] w fun e w'=>e=.returned (.int .i64 r)/\tK w.heap.size w w':=by
 rw[<- h];exact Ir k v a b d k' v' a' b' s w
theorem qO {k a d s r:Int}(h:iZ ((k,v),(a,b)) ((k',v'),(a',b'))=r)(w:nT):
  oU fM 91 #[rv k v a b d,rv k' v' a' b' s] w fun e w'=>e=.returned (.int .i64 r)/\tK w.heap.size w w':=by
 rw[<- h,<-Hd];refine (yB k v a b d k' v' a' b' s w).mono ?_;rintro e w' ⟨A,hg⟩;exact⟨A,hg.1⟩
theorem zR {l:List Rw}(h:∀j,j<k->iB l j=true)(s:iB l k=true){j:Nat}(A:j<k+1):iB l j=true:=by
 by_cases e:j=k
 ·subst e;exact s
 ·exact h j (by omega)
theorem sB (v:oW)(l:List Rw)(w:nT)(h:Rs w v l):
  oU fM 136 #[v] w fun e w'=>e=.returned (.bool (bH l))/\tK w.heap.size w w':=by
 cases J:aZ l
 ·have I:Hid (bH l=false):=EW J;go_enter nA,iP;go_wp2_with fail;refine (sR J h).mono ?_;rintro e w1 ⟨rfl,M⟩;go_wp2_with fail;go_ret;exact⟨rB I.out.symm,M⟩
 have HY:Hid ((∀i,i<l.length->iB l i=true)->bH l=true):=fun h=>EV J h;have HN:Hid (∀i,i<l.length->iB l i=false->bH l=false):=fun i h1 h2=>Jm h1 h2;go_enter nA,iP;go_wp2_with fail;refine (sR J h).mono ?_;rintro e w0 ⟨rfl,x2⟩;obtain⟨a,z9,rfl,hc,hm,hn,L⟩:=Rs.open (h.keep x2);unfold maxLen at hm;have HC:=(show Hid _ from L);clear L h J;go_wp2_with fail
 go_loopw [3] (fun i wr=>∃k:Nat,k<=l.length/\i=.int .i64 k/\(∀j,j<k->iB l j=true)/\tK w0.heap.size w0 wr) (fun i _=>l.length-(intOf i).toNat)
 case atStart=>exact⟨0,by omega,rfl,fun j T=>by omega,C5 _ _⟩
 case round=>
  obtain⟨k,hk,rfl,Y,G⟩:=hrel;have HA:=(show Hid _ from Y);clear Y;have U:=aG x2 G
  by_cases S:k<l.length
  ·obtain⟨g,off,K,V,A,B,D,rfl,hg,hr,c0,c1,c2,c3,c4⟩:=HC.out k S;have d0:∀p:eC wr,p.ww.cell? ⟨g,off+k*5,none⟩=some (.int .i64 K):=fun p=>cB p.below (cB G c0);have d1:∀p:eC wr,p.ww.cell? ⟨g,off+k*5+1,none⟩=some (.int .i64 V):=fun p=>cB p.below (cB G c1);have d2:∀p:eC wr,p.ww.cell? ⟨g,off+k*5+2,none⟩=some (.int .i64 A):=fun p=>cB p.below (cB G c2);have d3:∀p:eC wr,p.ww.cell? ⟨g,off+k*5+3,none⟩=some (.int .i64 B):=fun p=>cB p.below (cB G c3);have d4:∀p:eC wr,p.ww.cell? ⟨g,off+k*5+4,none⟩=some (.int .i64 D):=fun p=>cB p.below (cB G c4);have HR:=(show Hid _ from hr);clear c0 c1 c2 c3 c4 hr;have hne:=lG wr;have ik:((k:Int)<(l.length:Int)):=by omega
   by_cases hD:D=0
   ·subst hD;have I:Hid (bH l=false):=HN.out k S (by
     have hr:=HR.out;unfold iB;rw[hr];simp)
    go_wp2_with fail
    (refine lF (by kernel_rfl) (by kernel_rfl) ?_;(repeat (go_big_quiet_step ((first|(go_at_call 187;exact jS (r6 (by with_reducible assumption) _))))));refine nX ?_)
    intro w1 s
    replace s:=kU s
    go_wp2_with fail;go_ret;exact⟨rB I.out.symm,aG U s⟩
   have nD:(D==0)=false:=by simpa using hD
   rcases k with _|m
   ·have R:Hid (iB l 0=true):=by
     have hr:=HR.out
     show _=true
     rw[uV hr];simpa using hD
    simp only[Nat.zero_mul,Nat.add_zero]at d0 d1 d2 d3 d4;go_wp2_with fail
    (refine lF (by kernel_rfl) (by kernel_rfl) ?_;(repeat (go_big_quiet_step ((first|(go_at_call 187;exact jS (r6 (by with_reducible assumption) _))))));refine nX ?_)
    intro w1 s
    replace s:=kU s
    have M:=aG G s;go_wp2_with fail;exact⟨⟨1,by omega,rfl,fun j T=>zR HA.out R.out T,M⟩,by simp[intOf];omega⟩
   ·obtain⟨g',y5,K',Z,A',B',D',he,z8,hq,p0,p1,p2,p3,p4⟩:=HC.out m (by omega);simp at he;obtain⟨rfl,rfl⟩:=he;have e0:∀p:eC wr,p.ww.cell? ⟨g,off+m*5,none⟩=some (.int .i64 K'):=fun p=>cB p.below (cB G p0);have e1:∀p:eC wr,p.ww.cell? ⟨g,off+m*5+1,none⟩=some (.int .i64 Z):=fun p=>cB p.below (cB G p1);have e2:∀p:eC wr,p.ww.cell? ⟨g,off+m*5+2,none⟩=some (.int .i64 A'):=fun p=>cB p.below (cB G p2);have e3:∀p:eC wr,p.ww.cell? ⟨g,off+m*5+3,none⟩=some (.int .i64 B'):=fun p=>cB p.below (cB G p3);have e4:∀p:eC wr,p.ww.cell? ⟨g,off+m*5+4,none⟩=some (.int .i64 D'):=fun p=>cB p.below (cB G p4);clear p0 p1 p2 p3 p4;have R:Hid (iB l (m+1)=aW ((K',Z),(A',B')) ((K,V),(A,B))):=by
     have hr:=HR.out
     show _=_
     rw[rS hr hq];have:decide (D≠0)=true:=by simpa using hD
     rw[this,Bool.true_and]
    clear hq;have z7:(0:Int)<=(m:Int):=by omega
    have z5:(m:Int)<(l.length:Int):=by omega
    have z4:(l.length:Int)<=2097152:=by omega
    have iw:E8.wrap (m:Int)=(m:Int):=by rw[Df];omega
    have H:=zA ((K',Z),(A',B')) ((K,V),(A,B));obtain⟨r,y1⟩:∃r,iZ ((K',Z),(A',B')) ((K,V),(A,B))=r:=⟨_,rfl⟩;rw[y1]at H;cases O:aW ((K',Z),(A',B')) ((K,V),(A,B))
    ·have I:Hid (bH l=false):=HN.out (m+1) S (by rw[R.out];exact O);have nr:decide (0<=r)=true:=by rw[O]at H;simp at H ⊢;omega
     clear H;go_wp2_with fail
     (refine lF (by kernel_rfl) (by kernel_rfl) ?_;(repeat (go_big_quiet_step ((first|(go_at_call 187;exact jS (r6 (by with_reducible assumption) _))))));refine nX ?_)
     intro w1 s
     replace s:=kU s
     go_wp2_with fail;go_ret;exact⟨rB I.out.symm,aG U s⟩
    ·have I:Hid (iB l (m+1)=true):=by show _=true;rw[R.out];exact O
     have nr:decide (0<=r)=false:=by rw[O]at H;simp at H ⊢;omega
     clear H;go_wp2_with fail
     (refine lF (by kernel_rfl) (by kernel_rfl) ?_;(repeat (go_big_quiet_step ((first|(go_at_call 187;exact jS (r6 (by with_reducible assumption) _))))));refine nX ?_)
     intro w1 s
     replace s:=kU s
     have M:=aG G s;go_wp2_with fail;go_roundw
     case rel=>exact⟨m+1+1,by omega,by go_num,fun j T=>zR HA.out I.out T,M⟩
     case measure=>simp[intOf];omega
  ·have I:Hid (bH l=true):=HY.out fun j T=>HA.out j (by omega);go_wp2_with fail;go_ret;exact⟨rB I.out.symm,U⟩
theorem kB {l:List Rw}{r:Bool}(h:bH l=r){v:oW}(hs:Rs w v l):
  oU fM 136 #[v] w fun e w'=>e=.returned (.bool r)/\tK w.heap.size w w':=by
 rw[<- h];exact sB v l w hs
theorem tW (v:oW)(l:List Rw)(w:nT)(h:Rs w v l):
  oU fM 30 #[v] w fun e w'=>e=.returned (.bool (bH l))/\tK w.heap.size w w':=by
 cases M:aZ l
 ·have L:Hid (bH l=false):=EW M;go_enter nB,jB;go_wp2_with fail;refine (iR M h).mono ?_;rintro e w1 ⟨rfl,R⟩;go_wp2_with fail;go_ret;exact⟨rB L.out.symm,R⟩
 have HY:Hid ((∀i,i<l.length->iB l i=true)->bH l=true):=fun h=>EV M h;have HN:Hid (∀i,i<l.length->iB l i=false->bH l=false):=fun i h1 h2=>Jm h1 h2;go_enter nB,jB;go_wp2_with fail;refine (iR M h).mono ?_;rintro e w0 ⟨rfl,x0⟩;obtain⟨a,v4,rfl,hc,hm,hn,O⟩:=Rs.open (h.keep x0);unfold maxLen at hm;have HC:=(show Hid _ from O);clear O h M;go_wp2_with fail
 go_loopw [10] (fun i wr=>∃k:Nat,k<=l.length/\i=.int .i64 k/\(∀j,j<k->iB l j=true)/\tK w0.heap.size w0 wr) (fun i _=>l.length-(intOf i).toNat)
 case atStart=>exact⟨0,by omega,rfl,fun j hj=>by omega,C5 _ _⟩
 case round=>
  obtain⟨k,hk,rfl,x1,S⟩:=hrel;have HA:=(show Hid _ from x1);clear x1
  by_cases Z:k<l.length
  ·obtain⟨g,off,K,V,A,B,D,rfl,hg,hr,c0,c1,c2,c3,c4⟩:=HC.out k Z;have d0:=cB S c0;have d1:=cB S c1;have d2:=cB S c2;have d3:=cB S c3;have d4:=cB S c4;have HR:=(show Hid _ from hr);clear c0 c1 c2 c3 c4 hr;have ik:((k:Int)<(l.length:Int)):=by omega
   have J:=Bk.new (w:=wr) #[.int .i64 K,.int .i64 V,.int .i64 A,.int .i64 B,.int .i64 D] 55 rfl;have x7:tK wr.heap.size wr (wr.alloc (.cells #[.int .i64 K,.int .i64 V,.int .i64 A,.int .i64 B,.int .i64 D] 55)):=aH (C5 _ _) _;have G:=aG S x7;have x6:=aG x0 G
   go_upto_region 6 with fail
   clear d0 d1 d2 d3 d4;generalize wr.heap.size=Y at*;generalize Fj _ _=H at*;have t0:∀p:eC H,p.ww.cell? ⟨Y,0,none⟩=some (.int .i64 K):=fun p=>(J.keep p.below).ag.1;have t1:∀p:eC H,p.ww.cell? ⟨Y,1,none⟩=some (.int .i64 V):=fun p=>(J.keep p.below).ag.2.1;have t2:∀p:eC H,p.ww.cell? ⟨Y,2,none⟩=some (.int .i64 A):=fun p=>(J.keep p.below).ag.2.2.1;have t3:∀p:eC H,p.ww.cell? ⟨Y,3,none⟩=some (.int .i64 B):=fun p=>(J.keep p.below).ag.2.2.2.1;have t4:∀p:eC H,p.ww.cell? ⟨Y,4,none⟩=some (.int .i64 D):=fun p=>(J.keep p.below).ag.2.2.2.2;have hne:=lG H;clear J x7 S
   by_cases hD:D=0
   ·subst hD;have L:Hid (bH l=false):=HN.out k Z (by
     have hr:=HR.out;unfold iB;rw[hr];simp)
    go_wp2_with fail
    (refine lF (by kernel_rfl) (by kernel_rfl) ?_;(repeat (go_big_quiet_step ((first|(go_at_call 91;exact jS (qO (by with_reducible assumption) _))))));refine nX ?_)
    intro w1 s
    replace s:=kU s
    go_wp2_with fail;go_ret;exact⟨rB L.out.symm,aG x6 s⟩
   have nD:(D==0)=false:=by simpa using hD
   rcases k with _|m
   ·have U:Hid (iB l 0=true):=by
     have hr:=HR.out
     show _=true
     rw[uV hr];simpa using hD
    go_wp2_with fail
    (refine lF (by kernel_rfl) (by kernel_rfl) ?_;(repeat (go_big_quiet_step ((first|(go_at_call 91;exact jS (qO (by with_reducible assumption) _))))));refine nX ?_)
    intro w1 s
    replace s:=kU s
    have R:=aG G s;go_wp2_with fail;exact⟨⟨1,by omega,rfl,fun j hj=>zR HA.out U.out hj,R⟩,by simp[intOf];omega⟩
   ·obtain⟨g',z1,K',V',A',B',D',he,v3,hq,p0,p1,p2,p3,p4⟩:=HC.out m (by omega);simp at he;obtain⟨rfl,rfl⟩:=he;have e0:∀p:eC H,p.ww.cell? ⟨g,off+m*5,none⟩=some (.int .i64 K'):=fun p=>cB p.below (cB G p0);have e1:∀p:eC H,p.ww.cell? ⟨g,off+m*5+1,none⟩=some (.int .i64 V'):=fun p=>cB p.below (cB G p1);have e2:∀p:eC H,p.ww.cell? ⟨g,off+m*5+2,none⟩=some (.int .i64 A'):=fun p=>cB p.below (cB G p2);have e3:∀p:eC H,p.ww.cell? ⟨g,off+m*5+3,none⟩=some (.int .i64 B'):=fun p=>cB p.below (cB G p3);have e4:∀p:eC H,p.ww.cell? ⟨g,off+m*5+4,none⟩=some (.int .i64 D'):=fun p=>cB p.below (cB G p4);clear p0 p1 p2 p3 p4;have U:Hid (iB l (m+1)=aW ((K',V'),(A',B')) ((K,V),(A,B))):=by
     have hr:=HR.out
     show _=_
     rw[rS hr hq];have:decide (D≠0)=true:=by simpa using hD
     rw[this,Bool.true_and]
    clear hq;have v2:(0:Int)<=(m:Int):=by omega
    have v1:(m:Int)<(l.length:Int):=by omega
    have v0:(l.length:Int)<=2097152:=by omega
    have iw:E8.wrap (m:Int)=(m:Int):=by rw[Df];omega
    have I:=zA ((K',V'),(A',B')) ((K,V),(A,B));obtain⟨r,y6⟩:∃r,iZ ((K',V'),(A',B')) ((K,V),(A,B))=r:=⟨_,rfl⟩;rw[y6]at I;cases T:aW ((K',V'),(A',B')) ((K,V),(A,B))
    ·have L:Hid (bH l=false):=HN.out (m+1) Z (by rw[U.out];exact T);have nr:decide (0<=r)=true:=by rw[T]at I;simp at I ⊢;omega
     clear I;go_wp2_with fail
     (refine lF (by kernel_rfl) (by kernel_rfl) ?_;(repeat (go_big_quiet_step ((first|(go_at_call 91;exact jS (qO (by with_reducible assumption) _))))));refine nX ?_)
     intro w1 s
     replace s:=kU s
     go_wp2_with fail;go_ret;exact⟨rB L.out.symm,aG x6 s⟩
    ·have L:Hid (iB l (m+1)=true):=by show _=true;rw[U.out];exact T
     have nr:decide (0<=r)=false:=by rw[T]at I;simp at I ⊢;omega
     clear I;go_wp2_with fail
     (refine lF (by kernel_rfl) (by kernel_rfl) ?_;(repeat (go_big_quiet_step ((first|(go_at_call 91;exact jS (qO (by with_reducible assumption) _))))));refine nX ?_)
     intro w1 s
     replace s:=kU s
     have R:=aG G s;go_wp2_with fail;go_roundw
     case rel=>exact⟨m+1+1,by omega,by go_num,fun j hj=>zR HA.out L.out hj,R⟩
     case measure=>simp[intOf];omega
  ·have L:Hid (bH l=true):=HY.out fun j hj=>HA.out j (by omega);go_wp2_with fail;go_ret;exact⟨rB L.out.symm,aG x0 S⟩
theorem oJ {c:Array oW}(h:Bk w g c t):∀j u,c.toList[j]?=some u->w.cell? ((⟨g,0,none⟩:Addr).add j)=some u:=by
 intro j u s;have e:(⟨g,0,none⟩:Addr).add j=⟨g,j,none⟩:=by simp[Addr.add];exact fun h=>h.symm
 rw[e];exact h.cell (by simpa using s)
theorem BZ (r:Rw):∀u∈iE r,u.oneCell'=true:=by
 intro u s;simp at s;rcases s with rfl|rfl|rfl|rfl|rfl<;>rfl
theorem J8 (r:It):∀u∈nQ r,u.oneCell'=true:=by
 intro u s;simp at s;rcases s with rfl|rfl|rfl<;>rfl
section
variable {ops:Array Oper}{rest:List Oper}{o:Oper}{a:Act}{Q:Exit->Act->nT->Prop}
theorem kR (w:nT)(S:o.guard=none)(s x:tJ)(ho:o.op=.call { callee:= .builtin .append,args:=#[s,x],argTypes:=#[28,28] })
  (G:Nat) (v:oW) (l:List Rw) (hs:a.eval s=v) (J:aC w G v l) (L:Nat) (K V A B D:Int) (hx:a.eval x=.slice (some ⟨L,0,none⟩) 1 1)
  (T:Bk w L #[.int .i64 K,.int .i64 V,.int .i64 A,.int .i64 B,.int .i64 D] 55) (hl:l.length<=2000000) (I:G<=w.heap.size)
  (h:∀g H w',aC w' G (.slice (some ⟨g,0,none⟩) (l.length+1) H) (l++[(((K,V),(A,B)),D)])->w.grownBy w' v.ownBlock->g<w'.heap.size->wpList fM ops Q rest (a.put o.dst (.slice (some ⟨g,0,none⟩) (l.length+1) H)) w'):
  wpList fM ops Q (o::rest) a w:=by
 obtain⟨i0,hi,R,O,M⟩:=sD rU;refine pU w S s x 28 ho G 55 i0 _ 5 40 Tryz.underlying28 hi R O M rfl (by decide) v l.length (l.flatMap iE) hs J ⟨L,0,none⟩ 1 1 (iE (((K,V),(A,B)),D)) hx rfl (oJ T) (BZ _) (by omega) (by unfold maxLen;omega) (by omega) I w.heap.size rfl ?_;intro g H w' h1 h2 _ h4;refine h g H w' ?_ h2 h4
 show w'.ownsRow _ _ _ _ _ _
 rw[xV];simpa using h1
theorem uU (w:nT)(R:o.guard=none)(s x:tJ)(ho:o.op=.call { callee:= .builtin .append,args:=#[s,x],argTypes:=#[35,35] })
  (A:Nat) (v:oW) (l:List It) (hs:a.eval s=v) (I:aQ w A v l) (J:Nat) (K V D:Int) (hx:a.eval x=.slice (some ⟨J,0,none⟩) 1 1)
  (S:Bk w J #[.int .i64 K,.int .i64 V,.int .i64 D] 98) (hl:l.length<=2000000) (H:A<=w.heap.size)
  (h:∀g G w',aQ w' A (.slice (some ⟨g,0,none⟩) (l.length+1) G) (l++[((K,V),D)])->w.grownBy w' v.ownBlock->g<w'.heap.size->wpList fM ops Q rest (a.put o.dst (.slice (some ⟨g,0,none⟩) (l.length+1) G)) w'):
  wpList fM ops Q (o::rest) a w:=by
 obtain⟨i0,hi,O,M,L⟩:=sD BG;refine pU w R s x 35 ho A 98 i0 _ 3 24 Tryz.underlying35 hi O M L rfl (by decide) v l.length (l.flatMap nQ) hs I ⟨J,0,none⟩ 1 1 (nQ ((K,V),D)) hx rfl (oJ S) (J8 _) (by omega) (by unfold maxLen;omega) (by omega) H w.heap.size rfl ?_;intro g G w' h1 h2 _ h4;refine h g G w' ?_ h2 h4
 show w'.ownsRow _ _ _ _ _ _
 rw[xV];simpa using h1
theorem IV (w:nT)(S:o.guard=none)(s x:tJ)(ho:o.op=.call { callee:= .builtin .append,args:=#[s,x],argTypes:=#[27,27] })
  (G:Nat) (v:oW) (l:LI) (hs:a.eval s=v) (J:bW w G v l) (L:Nat) (A B:Int) (hx:a.eval x=.slice (some ⟨L,0,none⟩) 1 1)
  (T:Bk w L #[.int .i64 A,.int .i64 B] 32) (hl:l.length<=2000000) (I:G<=w.heap.size)
  (h:∀g H w',bW w' G (.slice (some ⟨g,0,none⟩) (l.length+1) H) (l++[(A,B)])->w.grownBy w' v.ownBlock->g<w'.heap.size->wpList fM ops Q rest (a.put o.dst (.slice (some ⟨g,0,none⟩) (l.length+1) H)) w'):
  wpList fM ops Q (o::rest) a w:=by
 obtain⟨i0,hi,R,O,M⟩:=sD rV;refine pU w S s x 27 ho G 32 i0 _ 2 16 Tryz.underlying27 hi R O M rfl (by decide) v l.length (jR l) hs J ⟨L,0,none⟩ 1 1 [.int .i64 A,.int .i64 B] hx rfl (oJ T) (rY _ _) (by omega) (by unfold maxLen;omega) (by omega) I w.heap.size rfl ?_;intro g H w' h1 h2 _ h4;refine h g H w' ?_ h2 h4
 show w'.ownsRow _ _ _ _ _ _
 rw[mC];simpa using h1
end
theorem lT (w:nT)(s:B=w.heap.size):aC (w.alloc (.cells #[] 55)) B (.slice (some ⟨B,0,none⟩) 0 0) []:=by
 subst s;exact kZ w _ 5
theorem jX (w:nT)(s:B=w.heap.size):aQ (w.alloc (.cells #[] 98)) B (.slice (some ⟨B,0,none⟩) 0 0) []:=by
 subst s;exact kZ w _ 3
theorem Below.aU {W A:nT}{s:Option Nat}(h:tK B w W)(hg:W.grownBy A s)(G:B<=W.heap.size)(hr:∀k,s=some k->B<=k):tK B w A:=h.grown hg G hr
theorem Bk.aU {w':nT}{c:Array oW}{s:Option Nat}(h:Bk w g c t)(hg:w.grownBy w' s)(hr:∀k,s=some k->g≠k):Bk w' g c t:=by
 unfold Bk;rw[hg.block g h.lt (fun e=>hr _ e.symm rfl)];exact h
theorem fK {α:Type}{l:List α}{x:α}(h:l[k]?=some x):l.take (k+1)=l.take k++[x]:=by
 rw[List.take_add_one,h];rfl
theorem qW {α:Type}{l:List α}{x:α}(h:l[k]?=some x):l.drop k=x::l.drop (k+1):=by
 have:=(tL.1 h);obtain⟨h1,h2⟩:=this;rw[List.drop_eq_getElem_cons h1,h2]
inductive iA (r:Rw)(l L:List Rw)(k:Nat)(D:Int):Bool->Prop
 | no (h1:L=l.take k) (h2:fP aW r l=l.take k++fP aW r (l.drop k)) (h3:D=r.2):iA r l L k D false
 | yes (h1:L++l.drop k=fP aW r l) (h2:L.length<=k+1):iA r l L k D true
theorem iA.start (r:Rw)(l:List Rw):iA r l [] 0 r.2 false:= .no (by simp) (by simp) rfl
theorem iA.past {r x:Rw}{l L:List Rw}(h:iA r l L k D true)(hx:l[k]?=some x):iA r l (L++[x]) (k+1) D true:=by
 cases h with
 | yes h1 h2=>exact .yes (by rw[AW,List.singleton_append,<-qW hx];exact h1) (by simp;omega)
theorem iA.before {r x:Rw}{l L:List Rw}(h:iA r l L k D false)(hx:l[k]?=some x)(s:aW x.1 r.1=true):iA r l (L++[x]) (k+1) D false:=by
 cases h with
 | no h1 h2 h3=>
  have hn:aW r.1 x.1=false:=by
   cases e:aW r.1 x.1
   ·rfl
   ·have:=fG.trans _ _ _ e s;rw[fG.irr]at this;cases this
  refine .no (by rw[fK hx,h1]) ?_ h3;rw[h2,fK hx,qW hx,AW]
  congr 1
  show fP aW r (x::l.drop (k+1))=x::fP aW r (l.drop (k+1))
  simp[fP,hn,s]
theorem iA.here {r x:Rw}{l L:List Rw}(h:iA r l L k D false)(hx:l[k]?=some x)(s:aW r.1 x.1=true):iA r l (L++[r]++[x]) (k+1) D true:=by
 cases h with
 | no h1 h2 h3=>
  have A:=(tL.1 hx).1;refine .yes ?_ ?_
  ·rw[h2,h1,qW hx];simp[fP,s]
  ·rw[h1];simp;omega
theorem iA.same {r x:Rw}{l L:List Rw}(h:iA r l L k D false)(hx:l[k]?=some x)(A:aW r.1 x.1=false)(s:aW x.1 r.1=false)(G:Int):iA r l (L++[(r.1,r.2+x.2)]) (k+1) G true:=by
 cases h with
 | no h1 h2 h3=>
  have H:=(tL.1 hx).1;refine .yes ?_ ?_
  ·rw[h2,h1,qW hx];simp[fP,A,s]
  ·rw[h1];simp;omega
theorem iA.du {r:Rw}{l L:List Rw}(h:iA r l L k D false)(s:l.length<=k):L++[r]=fP aW r l:=by
 cases h with
 | no h1 h2 h3=>rw[h2,h1,tN s];rfl
theorem iA.db {r:Rw}{l L:List Rw}(h:iA r l L k D true)(s:l.length<=k):L=fP aW r l:=by
 cases h with
 | yes h1 h2=>rw[tN s,List.append_nil]at h1;exact h1
theorem iA.len {r:Rw}{l L:List Rw}{b:Bool}(h:iA r l L k D b):L.length<=k+1:=by
 cases h with
 | no h1 h2 h3=>rw[h1];simp;omega
 | yes h1 h2=>exact h2
theorem iA.dD {r:Rw}{l L:List Rw}(h:iA r l L k D false):D=r.2:=by
 cases h with
 | no h1 h2 h3=>exact h3
theorem Kh (v:oW)(l:List Rw)(K V A B D:Int)(w:nT)(h:Rs w v l)(hl:l.length<=1000000)
  (w9:∀x∈l,x.1=((K,V),(A,B)) -> -4611686018427387904<=D+x.2/\D+x.2<=4611686018427387904):
  oU fM 150 #[v,rv K V A B D] w fun e w'=>∃o:oW,e=.returned o/\aC w' w.heap.size o (fP aW (((K,V),(A,B)),D) l)/\tK w.heap.size w w':=by
 have b0:=(Bk.new (w:=w) #[.int .i64 K,.int .i64 V,.int .i64 A,.int .i64 B,.int .i64 D] 55 rfl).alloc (.cells #[] 55);have o0:=lT (w.alloc (.cells #[.int .i64 K,.int .i64 V,.int .i64 A,.int .i64 B,.int .i64 D] 55)) (B:=w.heap.size+1) (by simp);have a0:=aH (aH (C5 w.heap.size w) (.cells #[.int .i64 K,.int .i64 V,.int .i64 A,.int .i64 B,.int .i64 D] 55)) (.cells #[] 55);have e4:Hid _:=w9;obtain⟨a,g8,rfl,hc,hm,hn,z7⟩:=Rs.open h;unfold maxLen at hm;have HC:=(show Hid _ from z7);clear z7 h w9;go_enter Tryz.func150,Tryz.ntmps150;go_wp2_with fail
 go_loopw [5,6,7] (fun o dn i wr=>∃(k:Nat)(bd:Bool)(L:List Rw)(U:Int),k<=l.length/\i=.int .i64 k/\dn=.bool bd/\iA (((K,V),(A,B)),D) l L k U bd/\aC wr (w.heap.size+1) o L/\Bk wr w.heap.size #[.int .i64 K,.int .i64 V,.int .i64 A,.int .i64 B,.int .i64 U] 55/\w.heap.size+1<=wr.heap.size/\tK w.heap.size w wr) (fun _ _ i _=>l.length-(intOf i).toNat)
 case atStart=>exact⟨0,false,[],D,by omega,rfl,rfl,iA.start _ _,o0,b0,by simp,a0⟩
 case round=>
  clear o0 b0 a0;obtain⟨k,bd,L,U,hk,rfl,rfl,v1,v5,x5,d6,hb⟩:=hrel;have Y:=(show Hid _ from v1);have HO:Hid (aC wr (w.heap.size+1) u5 L):=v5;have hL:=v1.len;clear v1 v5
  by_cases d8:k<l.length
  ·obtain⟨g,off,K',V',A',B',D0,rfl,hg,hr,c0,c1,c2,c3,c4⟩:=HC.out k d8;have d0:∀p:eC wr,p.ww.cell? ⟨g,off+k*5,none⟩=some (.int .i64 K'):=fun p=>cB p.below (cB hb c0);have d1:∀p:eC wr,p.ww.cell? ⟨g,off+k*5+1,none⟩=some (.int .i64 V'):=fun p=>cB p.below (cB hb c1);have d2:∀p:eC wr,p.ww.cell? ⟨g,off+k*5+2,none⟩=some (.int .i64 A'):=fun p=>cB p.below (cB hb c2);have d3:∀p:eC wr,p.ww.cell? ⟨g,off+k*5+3,none⟩=some (.int .i64 B'):=fun p=>cB p.below (cB hb c3);have d4:∀p:eC wr,p.ww.cell? ⟨g,off+k*5+4,none⟩=some (.int .i64 D0):=fun p=>cB p.below (cB hb c4);have t0:∀p:eC wr,p.ww.cell? ⟨w.heap.size,0,none⟩=some (.int .i64 K):=fun p=>(x5.keep p.below).ag.1;have t1:∀p:eC wr,p.ww.cell? ⟨w.heap.size,1,none⟩=some (.int .i64 V):=fun p=>(x5.keep p.below).ag.2.1;have t2:∀p:eC wr,p.ww.cell? ⟨w.heap.size,2,none⟩=some (.int .i64 A):=fun p=>(x5.keep p.below).ag.2.2.1;have t3:∀p:eC wr,p.ww.cell? ⟨w.heap.size,3,none⟩=some (.int .i64 B):=fun p=>(x5.keep p.below).ag.2.2.2.1;have t4:∀p:eC wr,p.ww.cell? ⟨w.heap.size,4,none⟩=some (.int .i64 U):=fun p=>(x5.keep p.below).ag.2.2.2.2;have HR:=(show Hid _ from hr);have HX:Hid (∀W,tK w.heap.size w W->W.cell? ⟨g,off+k*5,none⟩=some (.int .i64 K')/\W.cell? ⟨g,off+k*5+1,none⟩=some (.int .i64 V')/\W.cell? ⟨g,off+k*5+2,none⟩=some (.int .i64 A')/\W.cell? ⟨g,off+k*5+3,none⟩=some (.int .i64 B')/\W.cell? ⟨g,off+k*5+4,none⟩=some (.int .i64 D0)):=
    fun W hW=>⟨cB hW c0,cB hW c1,cB hW c2,cB hW c3,cB hW c4⟩
   clear c0 c1 c2 c3 c4 hr;have hne:=lG wr;have ik:((k:Int)<(l.length:Int)):=by omega
   have H:=zA ((K',V'),(A',B')) ((K,V),(A,B));have I:=OP ((K',V'),(A',B')) ((K,V),(A,B));obtain⟨r,z5⟩:∃r,iZ ((K',V'),(A',B')) ((K,V),(A,B))=r:=⟨_,rfl⟩;rw[z5]at H I;go_wp2_with fail
   (refine lF (by kernel_rfl) (by kernel_rfl) ?_;(repeat (go_big_quiet_step ((first|(go_at_call 187;exact jS (r6 (by with_reducible assumption) _))))));refine nX ?_)
   intro w1 Z
   replace Z:=kU Z
   have x8:=aG hb Z;have J:=x5.keep Z;have x6:Hid (aC w1 (w.heap.size+1) u5 L):=cC HO.out Z;have a7:w.heap.size+1<=w1.heap.size:=Nat.le_trans d6 Z.size;obtain⟨x0,x1,x2,x3,x4⟩:=HX.out w1 x8;obtain⟨y0,y1,y2,y3,y4⟩:=J.ag;clear d0 d1 d2 d3 d4 t0 t1 t2 t3 t4 hne HO x5 hb;cases bd
   ·have v9:U=D:=Y.out.dD;subst v9;cases T:aW ((K,V),(A,B)) ((K',V'),(A',B'))
    ·cases h9:aW ((K',V'),(A',B')) ((K,V),(A,B))
     ·-- the same
      have v6:=fG.tri _ _ h9 T;simp only[Prod.mk.injEq]at v6;obtain⟨⟨rfl,rfl⟩,rfl,rfl⟩:=v6;have v4:r=0:=by rw[h9]at H;rw[T]at I;simp at H I;omega
      subst v4;obtain⟨b9,b8⟩:=e4.out _ (List.mem_of_getElem? HR.out) rfl;dsimp only at b9 b8;have HZ:=(show Hid _ from Y.out.same HR.out T h9 (U+D0));have iw:E8.wrap (U+D0)=U+D0:=by rw[Df];omega
      have f4:=J.free 4;clear H I z5 T h9 Y
      go_upto_region 11 with fail
      have v7:=(J.set 4 (.int .i64 (U+D0))).drew;have e1:tK w.heap.size w (w1.setCell ⟨w.heap.size,4,none⟩ (.int .i64 (U+D0))).drew:=(x8.setCell (by simp) _).drew;have O2:aC (w1.setCell ⟨w.heap.size,4,none⟩ (.int .i64 (U+D0))).drew (w.heap.size+1) u5 L:=Af x6.out fun q hq _=>tK.heap_setCell _ _ _ _ (by simp;omega);have g6:w.heap.size+1<=(w1.setCell ⟨w.heap.size,4,none⟩ (.int .i64 (U+D0))).drew.heap.size:=by simpa using a7
      go_region
      generalize nT.drew _=w2 at*;have v3:Bk w2 w.heap.size #[.int .i64 K',.int .i64 V',.int .i64 A',.int .i64 B',.int .i64 (U+D0)] 55:=v7;obtain⟨z0,z1,z2,z3,z4⟩:=v3.ag;clear x0 x1 x2 x3 x4 y0 y1 y2 y3 y4 f4 v7 J x8 Z x6
      go_wp2_with (at_builtin;refine kR _ rfl _ _ rfl (w.heap.size+1) _ _ rfl (O2.alloc _) _ _ _ _ _ _ rfl (Bk.new _ _ rfl) (by omega) (by simp;omega) ?_;intro g3 y8 S G s v2)
      have M:tK w.heap.size w S:=Below.aU (aH e1 _) s (by simp;omega) (fun q e=>by have:=bU O2 q e;omega);have O:=(v3.alloc _).aU s (fun q e=>by have:=bU O2 q e;omega);have y6:w.heap.size+1<=S.heap.size:=by have:=s.size;simp at this;omega
      go_roundw
      case rel=>exact⟨k+1,true,_,_,by omega,by go_num,rfl,HZ.out,G,O,y6,M⟩
      case measure=>simp[intOf];omega
     ·-- before
      have v4:decide (r>0)=false:=by rw[h9]at H;rw[T]at I;simp at H I ⊢;omega
      have g7:(r==0)=false:=by rw[h9]at H;simp at H ⊢;omega
      have HZ:=(show Hid _ from Y.out.before HR.out h9);have R:=x6.out;clear H I z5 T h9 Y x6
      go_wp2_with (at_builtin;refine kR _ rfl _ _ rfl (w.heap.size+1) _ _ rfl (R.alloc _) _ _ _ _ _ _ rfl (Bk.new _ _ rfl) (by omega) (by simp;omega) ?_;intro g3 y8 S G s v2)
      have M:tK w.heap.size w S:=Below.aU (aH x8 _) s (by simp;omega) (fun q e=>by have:=bU R q e;omega);have O:=(J.alloc _).aU s (fun q e=>by have:=bU R q e;omega);have y6:w.heap.size+1<=S.heap.size:=by have:=s.size;simp at this;omega
      go_roundw
      case rel=>exact⟨k+1,false,_,_,by omega,by go_num,rfl,HZ.out,G,O,y6,M⟩
      case measure=>simp[intOf];omega
    ·-- here
     have v4:decide (r>0)=true:=by rw[T]at I;simp at I ⊢;omega
     have HZ:=(show Hid _ from Y.out.here HR.out T);have R:=x6.out;clear H I z5 T Y x6
     go_upto_region 10 with (at_builtin;refine kR _ rfl _ _ rfl (w.heap.size+1) _ _ rfl (R.alloc _) _ _ _ _ _ _ rfl (Bk.new _ _ rfl) (by omega) (by simp;omega) ?_;intro g3 y8 S G s v2)
     have M:tK w.heap.size w S:=Below.aU (aH x8 _) s (by simp;omega) (fun q e=>by have:=bU R q e;omega);have O:=(J.alloc _).aU s (fun q e=>by have:=bU R q e;omega);have y6:w.heap.size+1<=S.heap.size:=by have:=s.size;simp at this;omega
     obtain⟨z0,z1,z2,z3,z4⟩:=HX.out S M;clear x0 x1 x2 x3 x4 y0 y1 y2 y3 y4 s R J x8 Z
     go_wp2_with (at_builtin;refine kR _ rfl _ _ rfl (w.heap.size+1) _ _ rfl (G.alloc _) _ _ _ _ _ _ rfl (Bk.new _ _ rfl) (by simp;omega) (by simp;omega) ?_;intro g5 g2 w5 a6 x7 f6)
     have d9:tK w.heap.size w w5:=Below.aU (aH M _) x7 (by simp;omega) (fun q e=>by have:=bU G q e;omega);have a8:=(O.alloc _).aU x7 (fun q e=>by have:=bU G q e;omega);have d7:w.heap.size+1<=w5.heap.size:=by have:=x7.size;simp at this;omega
     go_roundw
     case rel=>exact⟨k+1,true,_,_,by omega,by go_num,rfl,HZ.out,by simpa using a6,a8,d7,d9⟩
     case measure=>simp[intOf];omega
   ·-- past
    have HZ:=(show Hid _ from Y.out.past HR.out);have R:=x6.out;clear H I z5 Y x6
    go_wp2_with (at_builtin;refine kR _ rfl _ _ rfl (w.heap.size+1) _ _ rfl (R.alloc _) _ _ _ _ _ _ rfl (Bk.new _ _ rfl) (by omega) (by simp;omega) ?_;intro g3 y8 S G s v2)
    have M:tK w.heap.size w S:=Below.aU (aH x8 _) s (by simp;omega) (fun q e=>by have:=bU R q e;omega);have O:=(J.alloc _).aU s (fun q e=>by have:=bU R q e;omega);have y6:w.heap.size+1<=S.heap.size:=by have:=s.size;simp at this;omega
    go_roundw
    case rel=>exact⟨k+1,true,_,_,by omega,by go_num,rfl,HZ.out,G,O,y6,M⟩
    case measure=>simp[intOf];omega
  ·cases bd
   ·have HZ:Hid (L++[(((K,V),(A,B)),D)]=fP aW (((K,V),(A,B)),D) l):=Y.out.du (by omega);have v9:U=D:=Y.out.dD;subst v9;obtain⟨y0,y1,y2,y3,y4⟩:=x5.ag;have R:=HO.out;clear HO Y
    go_wp2_with (at_builtin;refine kR _ rfl _ _ rfl (w.heap.size+1) _ _ rfl (R.alloc _) _ _ _ _ _ _ rfl (Bk.new _ _ rfl) (by omega) (by simp;omega) ?_;intro g3 y8 S G s v2)
    have M:tK w.heap.size w S:=Below.aU (aH hb _) s (by simp;omega) (fun q e=>by have:=bU R q e;omega);go_ret;refine⟨_,rfl,?_,M⟩;rw[<- HZ.out];exact cW G (by omega:w.heap.size<=w.heap.size+1)
   ·have HZ:Hid (L=fP aW (((K,V),(A,B)),D) l):=Y.out.db (by omega);go_wp2_with fail;go_ret;refine⟨_,rfl,?_,hb⟩;rw[<- HZ.out];exact cW HO.out (by omega)
theorem pZ {K:Type}(l:List (K×Int))(k:Nat):aJ (l.take k)<=aJ l:=by
 have:=cV (l.take k) (l.drop k);rw[List.take_append_drop]at this;have:=eN (l.drop k);omega
theorem Nc {l:List Rw}{r:Rw}(hr:l[k]?=some r)(ha:aJ l<=2305843009213693952):∀x∈iF aW (l.take k),x.1=r.1 -> -4611686018427387904<=r.2+x.2/\r.2+x.2<=4611686018427387904:=by
 intro x hx e;have h1:=sL fG (Fx fG _) hx;rw[Fy fG]at h1;have h2:=iT (l.take (k+1)) r.1;rw[fK hr,eG,if_pos rfl]at h2;have h3:=pZ l (k+1);rw[fK hr]at h3;rw[e]at h1;omega
theorem Q8 {l:List Rw}{r:Rw}(hr:l[k]?=some r)(h:r.2≠0):(l.take (k+1)).filter (fun r=>decide (r.2≠0))=(l.take k).filter (fun r=>decide (r.2≠0))++[r]:=by
 rw[fK hr,AP];simp[h]
theorem RG {l:List Rw}{r:Rw}(hr:l[k]?=some r)(h:r.2=0):(l.take (k+1)).filter (fun r=>decide (r.2≠0))=(l.take k).filter (fun r=>decide (r.2≠0)):=by
 rw[fK hr,AP];simp[h]
theorem kY (v:oW)(l:List Rw)(w:nT)(h:Rs w v l)(hl:l.length<=1000000)(ha:aJ l<=2305843009213693952):
  oU fM 77 #[v] w fun e w'=>∃o:oW,e=.returned o/\aC w' w.heap.size o (aO aW l)/\tK w.heap.size w w':=by
 have Y:=lT w rfl;have I:=aH (C5 w.heap.size w) (.cells #[] 55);have HA:Hid _:=ha;obtain⟨a,v3,rfl,hc,hm,hn,O⟩:=Rs.open h;unfold maxLen at hm;have HC:=(show Hid _ from O);clear O h ha;go_enter Tryz.func77,Tryz.ntmps77;go_wp2_with fail
 go_loopw [3,4] (fun o i wr=>∃k:Nat,k<=l.length/\i=.int .i64 k/\aC wr w.heap.size o (iF aW (l.take k))/\tK w.heap.size w wr) (fun _ i _=>l.length-(intOf i).toNat)
 case atStart=>exact⟨0,by omega,rfl,Y,I⟩
 case round=>
  clear Y I;obtain⟨k,hk,rfl,G,s⟩:=hrel;have J:Hid (aC wr w.heap.size u3 (iF aW (l.take k))):=G;have hL:=Fw aW (l.take k);have y4:(l.take k).length<=k:=xU _ _;clear G
  by_cases Z:k<l.length
  ·obtain⟨g,off,K,V,A,B,D,rfl,hg,hr,c0,c1,c2,c3,c4⟩:=HC.out k Z;have d0:=cB s c0;have d1:=cB s c1;have d2:=cB s c2;have d3:=cB s c3;have d4:=cB s c4;have HN:=(show Hid _ from Nc hr HA.out);have HS:Hid (iF aW (l.take (k+1))=fP aW (((K,V),(A,B)),D) (iF aW (l.take k))):=by show _=_;rw[fK hr,lV]
   have RS:Rs wr u3 (iF aW (l.take k)):=aC.rs J.out (by omega);have hz:=s.size;clear c0 c1 c2 c3 c4 hr;go_wp2_with fail;refine (Kh _ _ _ _ _ _ _ _ RS (by omega) HN.out).mono ?_;rintro e w1 ⟨o1,rfl,U,y2⟩;have R:=aG s y2;have T:=cW U hz;rw[<- HS.out]at T;clear U J RS HN HS;go_wp2_with fail;go_roundw
   case rel=>exact⟨k+1,by omega,by go_num,T,R⟩
   case measure=>simp[intOf];omega
  ·obtain rfl:k=l.length:=by omega
   have hO:aC wr w.heap.size u3 (iF aW l):=by have:=J.out;rwa [tM]at this
   rw[tM]at hL;clear J;have RS:Rs wr u3 (iF aW l):=aC.rs hO (by omega);clear hO HC;obtain⟨W,hW⟩:∃W,W=wr:=⟨_,rfl⟩;subst hW;have HF:Hid (aO aW l=(iF aW l).filter fun r=>decide (r.2≠0)):=rfl;generalize iF aW l=M at*;obtain⟨a',z7,rfl,v1,x9,z9,H⟩:=Rs.open RS;unfold maxLen at x9;have HC:=(show Hid _ from H);clear H RS y4;have Y:=lT W rfl;have I:=aH (C5 W.heap.size W) (.cells #[] 55);have y0:=s.size;go_wp2_with fail
   go_loopw [5,6] (fun o i wr=>∃k:Nat,k<=M.length/\i=.int .i64 k/\aC wr W.heap.size o ((M.take k).filter fun r=>decide (r.2≠0))/\tK W.heap.size W wr/\tK w.heap.size w wr) (fun _ i _=>M.length-(intOf i).toNat)
   case atStart=>exact⟨0,by omega,rfl,Y,I,aG s I⟩
   case round=>
    clear Y I s;obtain⟨k,hk,rfl,G,s,R⟩:=hrel;have J:Hid (aC wr W.heap.size u5 ((M.take k).filter fun r=>decide (r.2≠0))):=G;have v2:((M.take k).filter fun r=>decide (r.2≠0)).length<=k:=Nat.le_trans (List.length_filter_le _ _) (xU _ _);clear G
    by_cases Z:k<M.length
    ·obtain⟨g,off,K,V,A,B,D,rfl,hg,hr,c0,c1,c2,c3,c4⟩:=HC.out k Z;have d0:=cB s c0;have d1:=cB s c1;have d2:=cB s c2;have d3:=cB s c3;have d4:=cB s c4;clear c0 c1 c2 c3 c4
     by_cases hD:D=0
     ·subst hD;have HZ:=(show Hid _ from RG hr rfl);clear hr;go_wp2_with fail;go_roundw
      case rel=>
       refine⟨k+1,by omega,by go_num,?_,s,R⟩;rw[HZ.out];exact J.out
      case measure=>simp[intOf];omega
     ·have nD:(D==0)=false:=by simpa using hD
      have HZ:=(show Hid _ from Q8 hr hD);have O1:aC wr W.heap.size u5 ((M.take k).filter fun r=>decide (r.2≠0)):=J.out;have hz:=s.size;clear hr J;generalize ((M.take k).filter fun r=>decide (r.2≠0))=L at*
      go_wp2_with (at_builtin;refine kR _ rfl _ _ rfl W.heap.size _ _ rfl (O1.alloc _) _ _ _ _ _ _ rfl (Bk.new _ _ rfl) (by omega) (by simp;omega) ?_;intro g3 z5 w3 x2 S v0)
      have y1:tK W.heap.size W w3:=Below.aU (aH s _) S (by simp;omega) (bU O1);have x3:tK w.heap.size w w3:=Below.aU (aH R _) S (by simp;omega) (fun q e=>by have:=bU O1 q e;omega);go_roundw
      case rel=>
       refine⟨k+1,by omega,by go_num,?_,y1,x3⟩;rw[HZ.out];exact x2
      case measure=>simp[intOf];omega
    ·obtain rfl:k=M.length:=by omega
     go_wp2_with fail;go_ret;refine⟨_,rfl,?_,R⟩;have:=cW J.out y0;rw[tM,<-HF.out]at this;exact this
theorem OZ {l:List Rw}(h:bH l=true):kJ l=l:=by simp[kJ,h]
theorem Pt {l:List Rw}(h:bH l=false):kJ l=[]:=by simp[kJ,h]
theorem uC {v:oW}{l:List Rw}(h:aC w B v l)(hl:l.length<=1000000)(J:B<=w.heap.size):
  oU fM 151 #[v] w fun e w'=>∃o:oW,e=.returned o/\aC w' B o (kJ l)/\tK w.heap.size w w':=by
 have G:=aC.rs h (by omega);have I:Hid (aC w B v l):=h;clear h;cases A:bH l
 ·have HF:Hid (kJ l=[]):=Pt A;go_enter mO,iM;go_wp2_with fail;refine (kB A G).mono ?_;rintro e w1 ⟨rfl,s⟩;have hs:=s.size;go_wp2_with fail;go_ret;refine⟨_,rfl,?_,aH s _⟩;rw[HF.out];exact cW (lT w1 rfl) (by omega)
 ·have HF:Hid (kJ l=l):=OZ A;go_enter mO,iM;go_wp2_with fail;refine (kB A G).mono ?_;rintro e w1 ⟨rfl,s⟩;have H:Hid (aC w1 B v l):=cC I.out s;go_wp2_with fail;go_ret;refine⟨_,rfl,?_,s⟩;rw[HF.out];exact H.out
theorem mF {l:List Rw}(h:aZ l=true):aJ l<=99999*400:=by
 have h1:=mP (fun r hr=>mG (eZ h hr));have h2:=i6 h;have:(99999:Int)*l.length<=99999*400:=Int.mul_le_mul_of_nonneg_left (by omega) (by omega);omega
theorem Jj {l:List Rw}(h:aZ l=true):jH l=kJ (aO aW l):=by simp[jH,h,kS]
theorem MC {l:List Rw}(h:aZ l=false):jH l=[]:=by simp[jH,h]
theorem uJ (v:oW)(l:List Rw)(w:nT)(h:Rs w v l):
  oU fM 184 #[v] w fun e w'=>∃o:oW,e=.returned o/\aC w' w.heap.size o (jH l)/\tK w.heap.size w w':=by
 cases A:aZ l
 ·have HF:Hid (jH l=[]):=MC A;go_enter jO,gX;go_wp2_with fail;refine (sR A h).mono ?_;rintro e w1 ⟨rfl,s⟩;have hs:=s.size;go_wp2_with fail;go_ret;refine⟨_,rfl,?_,aH s _⟩;rw[HF.out];exact cW (lT w1 rfl) (by omega)
 ·have HF:Hid (jH l=kJ (aO aW l)):=Jj A;have ha:=mF A;have hl:=i6 A;have h9:=gP aW l;go_enter jO,gX;go_wp2_with fail;refine (sR A h).mono ?_;rintro e w1 ⟨rfl,s⟩;have h1:=h.keep s;have M:=s.size;go_wp2_with fail;refine (kY _ l _ h1 (by omega) (by omega)).mono ?_;rintro e S ⟨U,rfl,H,I⟩;have Z:=I.size;have L:=aG s I;have Y:Hid (aC S w1.heap.size U (aO aW l)):=H;clear H;go_wp2_with fail;refine (uC Y.out (by omega) (by omega)).mono ?_;rintro e R ⟨T,rfl,G,O⟩;have J:=aG L O;have V:Hid (aC R w1.heap.size T (kJ (aO aW l))):=G;clear G;go_wp2_with fail;go_ret;refine⟨_,rfl,?_,J⟩;rw[HF.out];exact cW V.out M
end Go.Proofs.YtbdpcngcbnoioaaGreatDoor
