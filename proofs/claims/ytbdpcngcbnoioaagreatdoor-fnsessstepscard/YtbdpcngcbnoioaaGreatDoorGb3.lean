import Derived.Test.YtbdpcngcbnoioaaGreatDoorGb1
import Derived.Sort.Grow
set_option maxRecDepth 100000
set_option maxHeartbeats 16000000
namespace Go.Proofs.YtbdpcngcbnoioaaGreatDoor
open Go.RowKit
open Go.Proofs.Tryz renaming prog->fD,ntmps159->fH,func159->fV,ntmps97->gY,func97->gZ,ntmps184->iC,ntmps151->jU,ntmps136->kR,ntmps30->kX,func184->lI,func151->lY,func136->mF,func30->mJ
open Go renaming World->nU,wpQuiet_nil->oJ,Calls->oO,Value->qA,wpList_append_lies->rN,IntKind->sE,info_parts->sG,Operand->sH
open Go.RowKit renaming Below->sI
open _root_.List renaming getElem?_eq_some_iff->wH,take_length->wR,drop_eq_nil_of_le->AT,length_take_le->B3,flatMap_append->BK,filter_append->E0,append_assoc->EJ
open Go.RowKit.Below renaming refl->Ga
open Go.IntKind renaming wrap_i64->Lx,i64->Md
open Go.World renaming alloc->Nh
variable {B g k n:Nat}{D a a' b b' k' v v':Int}{t:TypeId}{w:nU}
def fM (a b:Int):Int:=if a<b then -1 else if a>b then 1 else 0
theorem Kv (a b:Int):(fM a b<0)=(a<b):=by unfold fM;split<;>(try split)<;>simp<;>omega
theorem wS (a:Int)(w:nU):oO fD 167 #[.int .i64 a] w fun e w'=>e=.returned (.bool false)/\w'=w:=by
 go_enter Tryz.func167,Tryz.ntmps167
 go_wp2
 go_ret;exact⟨rB (by simp),rfl⟩
theorem pG (a b:Int)(w:nU):oO fD 97 #[.int .i64 a,.int .i64 b] w fun e w'=>e=.returned (.int .i64 (fM a b))/\w'=w:=by
 by_cases h1:a<b
 ·have e:fM a b = -1:=by simp[fM,h1]
  go_enter gZ,gY
  go_wp2_with (go_at_call 167;refine (wS _ _).mono ?_;rintro e w' ⟨rfl,rfl⟩)
  go_ret;exact⟨by rw[e];rfl,rfl⟩
 by_cases h2:a>b
 ·have e:fM a b=1:=by simp[fM,h1,h2]
  go_enter gZ,gY
  go_wp2_with (go_at_call 167;refine (wS _ _).mono ?_;rintro e w' ⟨rfl,rfl⟩)
  go_ret;exact⟨by rw[e];rfl,rfl⟩
 ·have e:fM a b=0:=by simp[fM,h1,h2]
  go_enter gZ,gY
  go_wp2_with (go_at_call 167;refine (wS _ _).mono ?_;rintro e w' ⟨rfl,rfl⟩)
  go_ret;exact⟨by rw[e];rfl,rfl⟩
theorem BG {k:sE}(h:a=b):Ending.returned (.int k a)=.returned (.int k b):=by rw[h]
def nO (x y:Int):Int:=if x=0 then y else x
theorem GC (g:Nat)(x y:Int)(w:nU)(s:w.cell? ⟨g,0,none⟩=some (.int .i64 x))(c1:w.cell? ⟨g,1,none⟩=some (.int .i64 y)):
  oO fD 159 #[.slice (some ⟨g,0,none⟩) 2 2] w fun e w'=>e=.returned (.int .i64 (nO x y))/\w'=w:=by
 have H:Hid (nO x y=if x=0 then y else x):=rfl
 by_cases h0:x=0
 ·subst h0
  by_cases h1:y=0
  ·subst h1;go_enter fV,fH;go_wp2_with fail
   go_rounds 3
   go_returns
   exact⟨rfl,rfl⟩
  ·have n1:(y==0)=false:=by simpa using h1
   go_enter fV,fH;go_wp2_with fail
   go_rounds 3
   go_returns
   exact⟨rfl,rfl⟩
 ·have n0:(x==0)=false:=by simpa using h0
  go_enter fV,fH;go_wp2_with fail
  go_rounds 3
  go_returns
  exact⟨BG (by rw[H.out,if_neg h0]),rfl⟩
theorem Lg (g:Nat)(x y z:Int)(w:nU)(s:w.cell? ⟨g,0,none⟩=some (.int .i64 x))(c1:w.cell? ⟨g,1,none⟩=some (.int .i64 y))(c2:w.cell? ⟨g,2,none⟩=some (.int .i64 z)):
  oO fD 159 #[.slice (some ⟨g,0,none⟩) 3 3] w fun e w'=>e=.returned (.int .i64 (nO x (nO y z)))/\w'=w:=by
 have H:Hid (nO x (nO y z)=if x=0 then (if y=0 then z else y) else x):=rfl
 by_cases h0:x=0
 ·subst h0
  by_cases h1:y=0
  ·subst h1
   by_cases h2:z=0
   ·subst h2;go_enter fV,fH;go_wp2_with fail
    go_rounds 4
    go_returns
    exact⟨rfl,rfl⟩
   ·have n2:(z==0)=false:=by simpa using h2
    go_enter fV,fH;go_wp2_with fail
    go_rounds 4
    go_returns
    exact⟨rfl,rfl⟩
  ·have n1:(y==0)=false:=by simpa using h1
   go_enter fV,fH;go_wp2_with fail
   go_rounds 4
   go_returns
   exact⟨BG (by rw[H.out];simp[h1]),rfl⟩
 ·have n0:(x==0)=false:=by simpa using h0
  go_enter fV,fH;go_wp2_with fail
  go_rounds 4
  go_returns
  exact⟨BG (by rw[H.out,if_neg h0]),rfl⟩
attribute [local go_sem ↓] Go.wp_at_zero Go.wp_at_succ
def Gr (w w':nU):Prop:=sI w.heap.size w w'/\w.drawn<=w'.drawn
theorem GA {w':nU}(h:Gr w w'):∃q os,w'=Go.Sort.grow (w.drewN q) os:=by
 obtain⟨s,hd⟩:=h;refine⟨w'.drawn-w.drawn,(w'.heap.toList.drop w.heap.size).toArray,?_⟩;have A:w'.heap=w.heap++(w'.heap.toList.drop w.heap.size).toArray:=by
  apply Array.ext_getElem?
  intro i
  by_cases hi:i<w.heap.size
  ·rw[s.block i hi,Array.getElem?_append_left hi]
  ·rw[Array.getElem?_append_right (by omega)];simp
   congr 1
   omega
 obtain⟨h1,h2,h3,h4,h5⟩:=w';simp only[Go.Sort.grow,nU.drewN]
 congr 1
 ·exact s.tape
 ·show h3=w.drawn+(h3-w.drawn);have:w.drawn<=h3:=hd;omega
 ·exact s.os
 ·exact s.output
theorem Gr.refl (w:nU):Gr w w:=⟨Ga _ _,Nat.le_refl _⟩
theorem Gr.trans {a b c:nU}(h:Gr a b)(k:Gr b c):Gr a c:=⟨aH h.1 k.1,Nat.le_trans h.2 k.2⟩
theorem Gr.alloc {a b:nU}(h:Gr a b)(o:Obj):Gr a (b.alloc o):=⟨aG h.1 o,h.2⟩
theorem Gr.drew {a b:nU}(h:Gr a b):Gr a b.drew:=⟨h.1.drew,Nat.le_succ_of_le h.2⟩
theorem xZ (a b c d:Int)(w:nU):
  oO fD 160 #[tv a b,tv c d] w fun e w'=>e=.returned (.int .i64 (nO (fM a c) (fM b d)))/\Gr w w':=by
 have A:=(Bk.new (w:=w) #[.int .i64 a,.int .i64 b] 32 rfl).alloc (.cells #[.int .i64 c,.int .i64 d] 32);have s:=Bk.new (w:=w.alloc (.cells #[.int .i64 a,.int .i64 b] 32)) (k:=w.heap.size+1) #[.int .i64 c,.int .i64 d] 32 (by simp);have hg:=((Gr.refl w).alloc (.cells #[.int .i64 a,.int .i64 b] 32)).alloc (.cells #[.int .i64 c,.int .i64 d] 32);go_enter Tryz.func160,Tryz.ntmps160;go_wp2_with fail;generalize Nh _ _=W at*;have F:Hid (∀w',sI W.heap.size W w'->w'.cell? ⟨w.heap.size,0,none⟩=some (.int .i64 a)/\w'.cell? ⟨w.heap.size,1,none⟩=some (.int .i64 b)/\w'.cell? ⟨w.heap.size+1,0,none⟩=some (.int .i64 c)/\w'.cell? ⟨w.heap.size+1,1,none⟩=some (.int .i64 d)):=
  fun w' h=>⟨(A.keep h).two.1,(A.keep h).two.2.1,(s.keep h).two.1,(s.keep h).two.2.1⟩
 have G:sI W.heap.size W W.drew:=(Ga _ _).drew;clear A s
 go_region_held3 (fun w'=>w'.cell? ⟨w.heap.size,0,none⟩=some (.int .i64 a)/\w'.cell? ⟨w.heap.size,1,none⟩=some (.int .i64 b)/\w'.cell? ⟨w.heap.size+1,0,none⟩=some (.int .i64 c)/\w'.cell? ⟨w.heap.size+1,1,none⟩=some (.int .i64 d))
  (first|exact F.out _ (by with_reducible assumption)|exact F.out _ (aG (by with_reducible assumption) _))
  (first
   | (go_at_call 97;refine (pG _ _ _).mono ?_;rintro e w' ⟨rfl,rfl⟩)
   | (go_at_call 159;refine (GC _ _ _ _ (Bk.new _ _ rfl).drew.two.1 (Bk.new _ _ rfl).drew.two.2.1).mono ?_;rintro e w' ⟨rfl,rfl⟩))
 go_wp2_with fail;go_ret;exact⟨rfl,(hg.alloc _).drew⟩
theorem xV (a b c x y z:Int)(w:nU):
  oO fD 143 #[iv a b c,iv x y z] w fun e w'=>e=.returned (.int .i64 (nO (fM a x) (fM b y)))/\Gr w w':=by
 have A:=(Bk.new (w:=w) #[.int .i64 a,.int .i64 b,.int .i64 c] 98 rfl).alloc (.cells #[.int .i64 x,.int .i64 y,.int .i64 z] 98);have s:=Bk.new (w:=w.alloc (.cells #[.int .i64 a,.int .i64 b,.int .i64 c] 98)) (k:=w.heap.size+1) #[.int .i64 x,.int .i64 y,.int .i64 z] 98 (by simp);have hg:=((Gr.refl w).alloc (.cells #[.int .i64 a,.int .i64 b,.int .i64 c] 98)).alloc (.cells #[.int .i64 x,.int .i64 y,.int .i64 z] 98);go_enter Tryz.func143,Tryz.ntmps143;go_wp2_with fail;generalize Nh _ _=W at*;have F:Hid (∀w',sI W.heap.size W w'->w'.cell? ⟨w.heap.size,0,none⟩=some (.int .i64 a)/\w'.cell? ⟨w.heap.size,1,none⟩=some (.int .i64 b)/\w'.cell? ⟨w.heap.size+1,0,none⟩=some (.int .i64 x)/\w'.cell? ⟨w.heap.size+1,1,none⟩=some (.int .i64 y)):=
  fun w' h=>⟨(A.keep h).three.1,(A.keep h).three.2.1,(s.keep h).three.1,(s.keep h).three.2.1⟩
 have G:sI W.heap.size W W.drew:=(Ga _ _).drew;clear A s
 go_region_held3 (fun w'=>w'.cell? ⟨w.heap.size,0,none⟩=some (.int .i64 a)/\w'.cell? ⟨w.heap.size,1,none⟩=some (.int .i64 b)/\w'.cell? ⟨w.heap.size+1,0,none⟩=some (.int .i64 x)/\w'.cell? ⟨w.heap.size+1,1,none⟩=some (.int .i64 y))
  (first|exact F.out _ (by with_reducible assumption)|exact F.out _ (aG (by with_reducible assumption) _))
  (first
   | (go_at_call 97;refine (pG _ _ _).mono ?_;rintro e w' ⟨rfl,rfl⟩)
   | (go_at_call 159;refine (GC _ _ _ _ (Bk.new _ _ rfl).drew.two.1 (Bk.new _ _ rfl).drew.two.2.1).mono ?_;rintro e w' ⟨rfl,rfl⟩))
 go_wp2_with fail;go_ret;exact⟨rfl,(hg.alloc _).drew⟩
theorem wZ (k v a b d k' v' a' b' F:Int)(w:nU):
  oO fD 91 #[rv k v a b d,rv k' v' a' b' F] w fun e w'=>e=.returned (.int .i64 (nO (fM k k') (nO (fM v v') (nO (fM a a') (fM b b')))))/\Gr w w':=by
 have A:=(Bk.new (w:=w) #[.int .i64 k,.int .i64 v,.int .i64 a,.int .i64 b,.int .i64 d] 55 rfl).alloc (.cells #[.int .i64 k',.int .i64 v',.int .i64 a',.int .i64 b',.int .i64 F] 55);have s:=Bk.new (w:=w.alloc (.cells #[.int .i64 k,.int .i64 v,.int .i64 a,.int .i64 b,.int .i64 d] 55)) (k:=w.heap.size+1) #[.int .i64 k',.int .i64 v',.int .i64 a',.int .i64 b',.int .i64 F] 55 (by simp);have hg:=((Gr.refl w).alloc (.cells #[.int .i64 k,.int .i64 v,.int .i64 a,.int .i64 b,.int .i64 d] 55)).alloc (.cells #[.int .i64 k',.int .i64 v',.int .i64 a',.int .i64 b',.int .i64 F] 55);go_enter Tryz.func91,Tryz.ntmps91;go_wp2_with fail;generalize Nh _ _=W at*;have J:Hid (∀w',sI W.heap.size W w'->(w'.cell? ⟨w.heap.size,0,none⟩=some (.int .i64 k)/\w'.cell? ⟨w.heap.size,1,none⟩=some (.int .i64 v)/\w'.cell? ⟨w.heap.size,2,none⟩=some (.int .i64 a)/\w'.cell? ⟨w.heap.size,3,none⟩=some (.int .i64 b)) /\
   w'.cell? ⟨w.heap.size+1,0,none⟩=some (.int .i64 k')/\w'.cell? ⟨w.heap.size+1,1,none⟩=some (.int .i64 v')/\w'.cell? ⟨w.heap.size+1,2,none⟩=some (.int .i64 a')/\w'.cell? ⟨w.heap.size+1,3,none⟩=some (.int .i64 b')):=
  fun w' h=>⟨⟨(A.keep h).aa.1,(A.keep h).aa.2.1,(A.keep h).aa.2.2.1,(A.keep h).aa.2.2.2.1⟩,(s.keep h).aa.1,(s.keep h).aa.2.1,(s.keep h).aa.2.2.1,(s.keep h).aa.2.2.2.1⟩
 have M:sI W.heap.size W W.drew:=(Ga _ _).drew;have I:Gr W W.drew:=(Gr.refl _).drew;clear A s
 go_region_held3 (fun w'=>(w'.cell? ⟨w.heap.size,0,none⟩=some (.int .i64 k)/\w'.cell? ⟨w.heap.size,1,none⟩=some (.int .i64 v)/\w'.cell? ⟨w.heap.size,2,none⟩=some (.int .i64 a)/\w'.cell? ⟨w.heap.size,3,none⟩=some (.int .i64 b)) /\
   w'.cell? ⟨w.heap.size+1,0,none⟩=some (.int .i64 k')/\w'.cell? ⟨w.heap.size+1,1,none⟩=some (.int .i64 v')/\w'.cell? ⟨w.heap.size+1,2,none⟩=some (.int .i64 a')/\w'.cell? ⟨w.heap.size+1,3,none⟩=some (.int .i64 b'))
  (first|exact J.out _ (by with_reducible assumption)|exact J.out _ (aG (by with_reducible assumption) _))
  (first
   | (go_at_call 97;refine (pG _ _ _).mono ?_;rintro e w' ⟨rfl,rfl⟩)
   | (go_at_call 160;refine (xZ _ _ _ _ _).mono ?_;rintro e N ⟨rfl,H⟩;have G:=I.trans H;have L:=G.1)
   | (go_at_call 159;refine (Lg _ _ _ _ _ (Bk.new _ _ rfl).three.1 (Bk.new _ _ rfl).three.2.1 (Bk.new _ _ rfl).three.2.2).mono ?_;rintro e w' ⟨rfl,rfl⟩))
 go_wp2_with fail;go_ret;exact⟨rfl,(hg.trans G).alloc _⟩
theorem G6 (a c b d:Int):nO (fM a c) (fM b d)=wO (a,b) (c,d):=by
 simp only[nO,fM,wO,cO,decide_eq_true_eq]
 repeat' split
 all_goals omega
theorem Fd (k v a b k' v' a' b':Int):nO (fM k k') (nO (fM v v') (nO (fM a a') (fM b b')))=iI ((k,v),(a,b)) ((k',v'),(a',b')):=by
 simp only[nO,fM,iI,uM]
 repeat' split
 all_goals omega
def fU (x0 x1 x2 x3:Int)(i:Nat):Int:=if i=0 then x0 else if i=1 then x1 else if i=2 then x2 else x3
theorem JW {k:Int}(hn:n<4)(h:∀j,j<n->fU k v a b j=fU k' v' a' b' j)(hl:fU k v a b n<fU k' v' a' b' n):iI ((k,v),(a,b)) ((k',v'),(a',b')) = -1:=by
 have:aQ ((k,v),(a,b)) ((k',v'),(a',b'))=true:=by
  rw[uM];obtain rfl|rfl|rfl|rfl:n=0\/n=1\/n=2\/n=3:=by omega
  ·simp[fU]at hl;simp;omega
  ·have:=h 0 (by omega);simp[fU]at hl this;simp;omega
  ·have:=h 0 (by omega);have:=h 1 (by omega);simp[fU]at *;omega
  ·have:=h 0 (by omega);have:=h 1 (by omega);have:=h 2 (by omega);simp[fU]at *;omega
 simp[iI,this]
theorem N6 {k:Int}(hn:n<4)(h:∀j,j<n->fU k v a b j=fU k' v' a' b' j)(hl:fU k' v' a' b' n<fU k v a b n):iI ((k,v),(a,b)) ((k',v'),(a',b'))=1:=by
 have h1:aQ ((k',v'),(a',b')) ((k,v),(a,b))=true:=by
  have:=JW hn (fun j s=>(h j s).symm) hl;unfold iI at this;cases e:aQ ((k',v'),(a',b')) ((k,v),(a,b))
  ·rw[e]at this;simp at this;split at this<;>omega
  ·rfl
 have h2:aQ ((k,v),(a,b)) ((k',v'),(a',b'))=false:=by
  cases e:aQ ((k,v),(a,b)) ((k',v'),(a',b'))
  ·rfl
  ·have:=eE.trans _ _ _ e h1;rw[eE.irr]at this;cases this
 simp[iI,h1,h2]
theorem NR {k:Int}(h:∀j,j<4->fU k v a b j=fU k' v' a' b' j):iI ((k,v),(a,b)) ((k',v'),(a',b'))=0:=by
 have h0:=h 0 (by omega);have h1:=h 1 (by omega);have h2:=h 2 (by omega);have h3:=h 3 (by omega);simp[fU]at h0 h1 h2 h3;subst h0 h1 h2 h3;simp[iI,eE.irr]
theorem Bk.four {G F A s:Int}(h:Bk w g #[.int .i64 G,.int .i64 F,.int .i64 A,.int .i64 s] t)(hn:n<4):w.cell? ⟨g,n,none⟩=some (.int .i64 (fU G F A s n)):=by
 obtain rfl|rfl|rfl|rfl:n=0\/n=1\/n=2\/n=3:=by omega
 all_goals exact h.cell rfl
theorem GY (k v a b d k' v' a' b' I:Int)(w:nU):
  oO fD 187 #[rv k v a b d,rv k' v' a' b' I] w fun e w'=>e=.returned (.int .i64 (iI ((k,v),(a,b)) ((k',v'),(a',b'))))/\sI w.heap.size w w':=by
 go_enter Tryz.func187,Tryz.ntmps187;go_wp2_with fail;have U:=(Bk.new (w:=(w.alloc (.cells #[.int .i64 k,.int .i64 v,.int .i64 a,.int .i64 b,.int .i64 d] 55)).alloc (.cells #[.int .i64 k',.int .i64 v',.int .i64 a',.int .i64 b',.int .i64 I] 55)) (k:=w.heap.size+1+1) #[.int .i64 k,.int .i64 v,.int .i64 a,.int .i64 b] 3 (by simp)).alloc (.cells #[.int .i64 k',.int .i64 v',.int .i64 a',.int .i64 b'] 3);have N:=Bk.new (w:=((w.alloc (.cells #[.int .i64 k,.int .i64 v,.int .i64 a,.int .i64 b,.int .i64 d] 55)).alloc (.cells #[.int .i64 k',.int .i64 v',.int .i64 a',.int .i64 b',.int .i64 I] 55)).alloc (.cells #[.int .i64 k,.int .i64 v,.int .i64 a,.int .i64 b] 3)) (k:=w.heap.size+1+1+1) #[.int .i64 k',.int .i64 v',.int .i64 a',.int .i64 b'] 3 (by simp);have M:=aG (aG (aG (aG (Ga w.heap.size w) (.cells #[.int .i64 k,.int .i64 v,.int .i64 a,.int .i64 b,.int .i64 d] 55)) (.cells #[.int .i64 k',.int .i64 v',.int .i64 a',.int .i64 b',.int .i64 I] 55)) (.cells #[.int .i64 k,.int .i64 v,.int .i64 a,.int .i64 b] 3)) (.cells #[.int .i64 k',.int .i64 v',.int .i64 a',.int .i64 b'] 3);generalize Nh _ _=W at*;have S:Hid (∀n,n<4->(∀j,j<n->fU k v a b j=fU k' v' a' b' j)->fU k v a b n<fU k' v' a' b' n->iI ((k,v),(a,b)) ((k',v'),(a',b')) = -1):=fun n h1 h2 h3=>JW h1 h2 h3;have R:Hid (∀n,n<4->(∀j,j<n->fU k v a b j=fU k' v' a' b' j)->fU k' v' a' b' n<fU k v a b n->iI ((k,v),(a,b)) ((k',v'),(a',b'))=1):=fun n h1 h2 h3=>N6 h1 h2 h3;have O:Hid ((∀j,j<4->fU k v a b j=fU k' v' a' b' j)->iI ((k,v),(a,b)) ((k',v'),(a',b'))=0):=fun h=>NR h
 go_loopw [7] (fun i wr=>∃n:Nat,n<=4/\i=.int .i64 n/\(∀j,j<n->fU k v a b j=fU k' v' a' b' j)/\sI W.heap.size W wr) (fun i _=>4-(intOf i).toNat)
 case atStart=>exact⟨0,by omega,rfl,fun j L=>by omega,Ga _ _⟩
 case round=>
  obtain⟨n,hn,rfl,G,H⟩:=hrel;have J:=(show Hid _ from G);clear G;have F:=aH M H
  by_cases A:n<4
  ·have d0:=(U.keep H).four A;have d1:=(N.keep H).four A;have K1:=(show Hid _ from S.out n A J.out);have Z:=(show Hid _ from R.out n A J.out);have V:Hid (fU k v a b n=fU k' v' a' b' n->∀j,j<n+1->fU k v a b j=fU k' v' a' b' j):=fun e j L=>by
    by_cases T:j=n
    ·rw[T];exact e
    ·exact J.out j (by omega)
   generalize fU k v a b n=X at*;generalize fU k' v' a' b' n=Y at*;have ik:((n:Int)<4):=by omega
   by_cases h1:X<Y
   ·have s:Hid (iI ((k,v),(a,b)) ((k',v'),(a',b')) = -1):=K1.out h1;go_wp2_with fail
    go_quiet (fail)
    go_wp2_with fail;go_ret;exact⟨BG s.out.symm,dC F _⟩
   ·by_cases h2:Y<X
    ·have s:Hid (iI ((k,v),(a,b)) ((k',v'),(a',b'))=1):=Z.out h2;go_wp2_with fail
     go_quiet (fail)
     go_wp2_with fail
     go_quiet (fail)
     go_wp2_with fail;go_ret;exact⟨BG s.out.symm,dC (dC F _) _⟩
    ·have s:=(show Hid _ from V.out (by omega));go_wp2_with fail
     go_quiet (fail)
     go_wp2_with fail
     go_quiet (fail)
     go_wp2_with fail;go_roundw
     case rel=>exact⟨n+1,by omega,by go_num,s.out,dC H _⟩
     case measure=>simp[intOf];omega
  ·have s:Hid (iI ((k,v),(a,b)) ((k',v'),(a',b'))=0):=O.out fun j L=>J.out j (by omega);go_wp2_with fail;go_ret;exact⟨BG s.out.symm,F⟩
theorem q8 {k d s r:Int}(h:iI ((k,v),(a,b)) ((k',v'),(a',b'))=r)(w:nU):
  oO fD 187 #[rv k v a b d,rv k' v' a' b' s] w fun e w'=>e=.returned (.int .i64 r)/\sI w.heap.size w w':=by
 rw[<- h];exact GY k v a b d k' v' a' b' s w
theorem pJ {k d s r:Int}(h:iI ((k,v),(a,b)) ((k',v'),(a',b'))=r)(w:nU):
  oO fD 91 #[rv k v a b d,rv k' v' a' b' s] w fun e w'=>e=.returned (.int .i64 r)/\sI w.heap.size w w':=by
 rw[<- h,<-Fd];refine (wZ k v a b d k' v' a' b' s w).mono ?_;rintro e w' ⟨A,hg⟩;exact⟨A,hg.1⟩
theorem yG {l:List Rw}(h:∀j,j<k->fZ l j=true)(s:fZ l k=true){j:Nat}(A:j<k+1):fZ l j=true:=by
 by_cases e:j=k
 ·subst e;exact s
 ·exact h j (by omega)
theorem sB (v:qA)(l:List Rw)(w:nU)(h:Rs w v l):
  oO fD 136 #[v] w fun e w'=>e=.returned (.bool (aZ l))/\sI w.heap.size w w':=by
 cases I:aR l
 ·have H:Hid (aZ l=false):=Dw I;go_enter mF,kR;go_wp2_with fail;refine (sR I h).mono ?_;rintro e w1 ⟨rfl,L⟩;go_wp2_with fail;go_ret;exact⟨rB H.out.symm,L⟩
 have HY:Hid ((∀i,i<l.length->fZ l i=true)->aZ l=true):=fun h=>Dk I h;have HN:Hid (∀i,i<l.length->fZ l i=false->aZ l=false):=fun i h1 h2=>Jn h1 h2;go_enter mF,kR;go_wp2_with fail;refine (sR I h).mono ?_;rintro e w0 ⟨rfl,x0⟩;obtain⟨a,z4,rfl,hc,hm,hn,J⟩:=Rs.open (h.keep x0);unfold maxLen at hm;have HC:=(show Hid _ from J);clear J h I;go_wp2_with fail
 go_loopw [3] (fun i wr=>∃k:Nat,k<=l.length/\i=.int .i64 k/\(∀j,j<k->fZ l j=true)/\sI w0.heap.size w0 wr) (fun i _=>l.length-(intOf i).toNat)
 case atStart=>exact⟨0,by omega,rfl,fun j R=>by omega,Ga _ _⟩
 case round=>
  obtain⟨k,hk,rfl,T,F⟩:=hrel;have HA:=(show Hid _ from T);clear T;have S:=aH x0 F
  by_cases O:k<l.length
  ·obtain⟨g,off,K,V,A,B,D,rfl,hg,hr,c0,c1,c2,c3,c4⟩:=HC.out k O;have d0:∀p:dH wr,p.ww.cell? ⟨g,off+k*5,none⟩=some (.int .i64 K):=fun p=>cB p.below (cB F c0);have d1:∀p:dH wr,p.ww.cell? ⟨g,off+k*5+1,none⟩=some (.int .i64 V):=fun p=>cB p.below (cB F c1);have d2:∀p:dH wr,p.ww.cell? ⟨g,off+k*5+2,none⟩=some (.int .i64 A):=fun p=>cB p.below (cB F c2);have d3:∀p:dH wr,p.ww.cell? ⟨g,off+k*5+3,none⟩=some (.int .i64 B):=fun p=>cB p.below (cB F c3);have d4:∀p:dH wr,p.ww.cell? ⟨g,off+k*5+4,none⟩=some (.int .i64 D):=fun p=>cB p.below (cB F c4);have HR:=(show Hid _ from hr);clear c0 c1 c2 c3 c4 hr;have hne:=jC wr;have ik:((k:Int)<(l.length:Int)):=by omega
   by_cases hD:D=0
   ·subst hD;have H:Hid (aZ l=false):=HN.out k O (by
     have hr:=HR.out;unfold fZ;rw[hr];simp)
    go_wp2_with fail
    (refine jJ (by kernel_rfl) (by kernel_rfl) ?_;(repeat (go_big_quiet_step ((first|(go_at_call 187;exact iJ (q8 (by with_reducible assumption) _))))));refine oJ ?_)
    intro w1 s
    replace s:=jM s
    go_wp2_with fail;go_ret;exact⟨rB H.out.symm,aH S s⟩
   have nD:(D==0)=false:=by simpa using hD
   rcases k with _|m
   ·have N:Hid (fZ l 0=true):=by
     have hr:=HR.out
     show _=true
     rw[tM hr];simpa using hD
    simp only[Nat.zero_mul,Nat.add_zero]at d0 d1 d2 d3 d4;go_wp2_with fail
    (refine jJ (by kernel_rfl) (by kernel_rfl) ?_;(repeat (go_big_quiet_step ((first|(go_at_call 187;exact iJ (q8 (by with_reducible assumption) _))))));refine oJ ?_)
    intro w1 s
    replace s:=jM s
    have L:=aH F s;go_wp2_with fail;exact⟨⟨1,by omega,rfl,fun j R=>yG HA.out N.out R,L⟩,by simp[intOf];omega⟩
   ·obtain⟨g',y3,Y,U,Z,B',D',he,z3,hq,p0,p1,p2,p3,p4⟩:=HC.out m (by omega);simp at he;obtain⟨rfl,rfl⟩:=he;have e0:∀p:dH wr,p.ww.cell? ⟨g,off+m*5,none⟩=some (.int .i64 Y):=fun p=>cB p.below (cB F p0);have e1:∀p:dH wr,p.ww.cell? ⟨g,off+m*5+1,none⟩=some (.int .i64 U):=fun p=>cB p.below (cB F p1);have e2:∀p:dH wr,p.ww.cell? ⟨g,off+m*5+2,none⟩=some (.int .i64 Z):=fun p=>cB p.below (cB F p2);have e3:∀p:dH wr,p.ww.cell? ⟨g,off+m*5+3,none⟩=some (.int .i64 B'):=fun p=>cB p.below (cB F p3);have e4:∀p:dH wr,p.ww.cell? ⟨g,off+m*5+4,none⟩=some (.int .i64 D'):=fun p=>cB p.below (cB F p4);clear p0 p1 p2 p3 p4;have N:Hid (fZ l (m+1)=aQ ((Y,U),(Z,B')) ((K,V),(A,B))):=by
     have hr:=HR.out
     show _=_
     rw[qS hr hq];have:decide (D≠0)=true:=by simpa using hD
     rw[this,Bool.true_and]
    clear hq;have z2:(0:Int)<=(m:Int):=by omega
    have z1:(m:Int)<(l.length:Int):=by omega
    have z0:(l.length:Int)<=2097152:=by omega
    have iw:Md.wrap (m:Int)=(m:Int):=by rw[Lx];omega
    have G:=yJ ((Y,U),(Z,B')) ((K,V),(A,B));obtain⟨r,x9⟩:∃r,iI ((Y,U),(Z,B')) ((K,V),(A,B))=r:=⟨_,rfl⟩;rw[x9]at G;cases M:aQ ((Y,U),(Z,B')) ((K,V),(A,B))
    ·have H:Hid (aZ l=false):=HN.out (m+1) O (by rw[N.out];exact M);have nr:decide (0<=r)=true:=by rw[M]at G;simp at G ⊢;omega
     clear G;go_wp2_with fail
     (refine jJ (by kernel_rfl) (by kernel_rfl) ?_;(repeat (go_big_quiet_step ((first|(go_at_call 187;exact iJ (q8 (by with_reducible assumption) _))))));refine oJ ?_)
     intro w1 s
     replace s:=jM s
     go_wp2_with fail;go_ret;exact⟨rB H.out.symm,aH S s⟩
    ·have H:Hid (fZ l (m+1)=true):=by show _=true;rw[N.out];exact M
     have nr:decide (0<=r)=false:=by rw[M]at G;simp at G ⊢;omega
     clear G;go_wp2_with fail
     (refine jJ (by kernel_rfl) (by kernel_rfl) ?_;(repeat (go_big_quiet_step ((first|(go_at_call 187;exact iJ (q8 (by with_reducible assumption) _))))));refine oJ ?_)
     intro w1 s
     replace s:=jM s
     have L:=aH F s;go_wp2_with fail;go_roundw
     case rel=>exact⟨m+1+1,by omega,by go_num,fun j R=>yG HA.out H.out R,L⟩
     case measure=>simp[intOf];omega
  ·have H:Hid (aZ l=true):=HY.out fun j R=>HA.out j (by omega);go_wp2_with fail;go_ret;exact⟨rB H.out.symm,S⟩
theorem jO {l:List Rw}{r:Bool}(h:aZ l=r){v:qA}(hs:Rs w v l):
  oO fD 136 #[v] w fun e w'=>e=.returned (.bool r)/\sI w.heap.size w w':=by
 rw[<- h];exact sB v l w hs
theorem sY (v:qA)(l:List Rw)(w:nU)(h:Rs w v l):
  oO fD 30 #[v] w fun e w'=>e=.returned (.bool (aZ l))/\sI w.heap.size w w':=by
 cases L:aR l
 ·have J:Hid (aZ l=false):=Dw L;go_enter mJ,kX;go_wp2_with fail;refine (iR L h).mono ?_;rintro e w1 ⟨rfl,N⟩;go_wp2_with fail;go_ret;exact⟨rB J.out.symm,N⟩
 have HY:Hid ((∀i,i<l.length->fZ l i=true)->aZ l=true):=fun h=>Dk L h;have HN:Hid (∀i,i<l.length->fZ l i=false->aZ l=false):=fun i h1 h2=>Jn h1 h2;go_enter mJ,kX;go_wp2_with fail;refine (iR L h).mono ?_;rintro e w0 ⟨rfl,Z⟩;obtain⟨a,z9,rfl,hc,hm,hn,M⟩:=Rs.open (h.keep Z);unfold maxLen at hm;have HC:=(show Hid _ from M);clear M h L;go_wp2_with fail
 go_loopw [10] (fun i wr=>∃k:Nat,k<=l.length/\i=.int .i64 k/\(∀j,j<k->fZ l j=true)/\sI w0.heap.size w0 wr) (fun i _=>l.length-(intOf i).toNat)
 case atStart=>exact⟨0,by omega,rfl,fun j Y=>by omega,Ga _ _⟩
 case round=>
  obtain⟨k,hk,rfl,h9,O⟩:=hrel;have HA:=(show Hid _ from h9);clear h9
  by_cases U:k<l.length
  ·obtain⟨g,off,K,V,A,B,D,rfl,hg,hr,c0,c1,c2,c3,c4⟩:=HC.out k U;have d0:=cB O c0;have d1:=cB O c1;have d2:=cB O c2;have d3:=cB O c3;have d4:=cB O c4;have HR:=(show Hid _ from hr);clear c0 c1 c2 c3 c4 hr;have ik:((k:Int)<(l.length:Int)):=by omega
   have I:=Bk.new (w:=wr) #[.int .i64 K,.int .i64 V,.int .i64 A,.int .i64 B,.int .i64 D] 55 rfl;have x5:sI wr.heap.size wr (wr.alloc (.cells #[.int .i64 K,.int .i64 V,.int .i64 A,.int .i64 B,.int .i64 D] 55)):=aG (Ga _ _) _;have F:=aH O x5;have x4:=aH Z F
   go_upto_region 6 with fail
   clear d0 d1 d2 d3 d4;generalize wr.heap.size=T at*;generalize Nh _ _=G at*;have t0:∀p:dH G,p.ww.cell? ⟨T,0,none⟩=some (.int .i64 K):=fun p=>(I.keep p.below).aa.1;have t1:∀p:dH G,p.ww.cell? ⟨T,1,none⟩=some (.int .i64 V):=fun p=>(I.keep p.below).aa.2.1;have t2:∀p:dH G,p.ww.cell? ⟨T,2,none⟩=some (.int .i64 A):=fun p=>(I.keep p.below).aa.2.2.1;have t3:∀p:dH G,p.ww.cell? ⟨T,3,none⟩=some (.int .i64 B):=fun p=>(I.keep p.below).aa.2.2.2.1;have t4:∀p:dH G,p.ww.cell? ⟨T,4,none⟩=some (.int .i64 D):=fun p=>(I.keep p.below).aa.2.2.2.2;have hne:=jC G;clear I x5 O
   by_cases hD:D=0
   ·subst hD;have J:Hid (aZ l=false):=HN.out k U (by
     have hr:=HR.out;unfold fZ;rw[hr];simp)
    go_wp2_with fail
    (refine jJ (by kernel_rfl) (by kernel_rfl) ?_;(repeat (go_big_quiet_step ((first|(go_at_call 91;exact iJ (pJ (by with_reducible assumption) _))))));refine oJ ?_)
    intro w1 s
    replace s:=jM s
    go_wp2_with fail;go_ret;exact⟨rB J.out.symm,aH x4 s⟩
   have nD:(D==0)=false:=by simpa using hD
   rcases k with _|m
   ·have S:Hid (fZ l 0=true):=by
     have hr:=HR.out
     show _=true
     rw[tM hr];simpa using hD
    go_wp2_with fail
    (refine jJ (by kernel_rfl) (by kernel_rfl) ?_;(repeat (go_big_quiet_step ((first|(go_at_call 91;exact iJ (pJ (by with_reducible assumption) _))))));refine oJ ?_)
    intro w1 s
    replace s:=jM s
    have N:=aH F s;go_wp2_with fail;exact⟨⟨1,by omega,rfl,fun j Y=>yG HA.out S.out Y,N⟩,by simp[intOf];omega⟩
   ·obtain⟨g',y8,K',V',A',B',D',he,z8,hq,p0,p1,p2,p3,p4⟩:=HC.out m (by omega);simp at he;obtain⟨rfl,rfl⟩:=he;have e0:∀p:dH G,p.ww.cell? ⟨g,off+m*5,none⟩=some (.int .i64 K'):=fun p=>cB p.below (cB F p0);have e1:∀p:dH G,p.ww.cell? ⟨g,off+m*5+1,none⟩=some (.int .i64 V'):=fun p=>cB p.below (cB F p1);have e2:∀p:dH G,p.ww.cell? ⟨g,off+m*5+2,none⟩=some (.int .i64 A'):=fun p=>cB p.below (cB F p2);have e3:∀p:dH G,p.ww.cell? ⟨g,off+m*5+3,none⟩=some (.int .i64 B'):=fun p=>cB p.below (cB F p3);have e4:∀p:dH G,p.ww.cell? ⟨g,off+m*5+4,none⟩=some (.int .i64 D'):=fun p=>cB p.below (cB F p4);clear p0 p1 p2 p3 p4;have S:Hid (fZ l (m+1)=aQ ((K',V'),(A',B')) ((K,V),(A,B))):=by
     have hr:=HR.out
     show _=_
     rw[qS hr hq];have:decide (D≠0)=true:=by simpa using hD
     rw[this,Bool.true_and]
    clear hq;have z7:(0:Int)<=(m:Int):=by omega
    have z6:(m:Int)<(l.length:Int):=by omega
    have z5:(l.length:Int)<=2097152:=by omega
    have iw:Md.wrap (m:Int)=(m:Int):=by rw[Lx];omega
    have H:=yJ ((K',V'),(A',B')) ((K,V),(A,B));obtain⟨r,y4⟩:∃r,iI ((K',V'),(A',B')) ((K,V),(A,B))=r:=⟨_,rfl⟩;rw[y4]at H;cases R:aQ ((K',V'),(A',B')) ((K,V),(A,B))
    ·have J:Hid (aZ l=false):=HN.out (m+1) U (by rw[S.out];exact R);have nr:decide (0<=r)=true:=by rw[R]at H;simp at H ⊢;omega
     clear H;go_wp2_with fail
     (refine jJ (by kernel_rfl) (by kernel_rfl) ?_;(repeat (go_big_quiet_step ((first|(go_at_call 91;exact iJ (pJ (by with_reducible assumption) _))))));refine oJ ?_)
     intro w1 s
     replace s:=jM s
     go_wp2_with fail;go_ret;exact⟨rB J.out.symm,aH x4 s⟩
    ·have J:Hid (fZ l (m+1)=true):=by show _=true;rw[S.out];exact R
     have nr:decide (0<=r)=false:=by rw[R]at H;simp at H ⊢;omega
     clear H;go_wp2_with fail
     (refine jJ (by kernel_rfl) (by kernel_rfl) ?_;(repeat (go_big_quiet_step ((first|(go_at_call 91;exact iJ (pJ (by with_reducible assumption) _))))));refine oJ ?_)
     intro w1 s
     replace s:=jM s
     have N:=aH F s;go_wp2_with fail;go_roundw
     case rel=>exact⟨m+1+1,by omega,by go_num,fun j Y=>yG HA.out J.out Y,N⟩
     case measure=>simp[intOf];omega
  ·have J:Hid (aZ l=true):=HY.out fun j Y=>HA.out j (by omega);go_wp2_with fail;go_ret;exact⟨rB J.out.symm,aH Z O⟩
theorem pO {c:Array qA}(h:Bk w g c t):∀j u,c.toList[j]?=some u->w.cell? ((⟨g,0,none⟩:Addr).add j)=some u:=by
 intro j u s;have e:(⟨g,0,none⟩:Addr).add j=⟨g,j,none⟩:=by simp[Addr.add];exact fun h=>h.symm
 rw[e];exact h.cell (by simpa using s)
theorem BE (r:Rw):∀u∈fX r,u.oneCell'=true:=by
 intro u s;simp at s;rcases s with rfl|rfl|rfl|rfl|rfl<;>rfl
theorem Lc (r:It):∀u∈rJ r,u.oneCell'=true:=by
 intro u s;simp at s;rcases s with rfl|rfl|rfl<;>rfl
section
variable {ops:Array Oper}{rest:List Oper}{o:Oper}{a:Act}{Q:Exit->Act->nU->Prop}
theorem jZ (w:nU)(O:o.guard=none)(s x:sH)(ho:o.op=.call { callee:= .builtin .append,args:=#[s,x],argTypes:=#[28,28] })
  (F:Nat) (v:qA) (l:List Rw) (hs:a.eval s=v) (I:aD w F v l) (J:Nat) (K V A B D:Int) (hx:a.eval x=.slice (some ⟨J,0,none⟩) 1 1)
  (R:Bk w J #[.int .i64 K,.int .i64 V,.int .i64 A,.int .i64 B,.int .i64 D] 55) (hl:l.length<=2000000) (H:F<=w.heap.size)
  (h:∀g G w',aD w' F (.slice (some ⟨g,0,none⟩) (l.length+1) G) (l++[(((K,V),(A,B)),D)])->w.grownBy w' v.ownBlock->g<w'.heap.size->wpList fD ops Q rest (a.put o.dst (.slice (some ⟨g,0,none⟩) (l.length+1) G)) w'):
  wpList fD ops Q (o::rest) a w:=by
 obtain⟨i0,hi,N,M,L⟩:=sG qO;refine rN w O s x 28 ho F 55 i0 _ 5 40 Tryz.underlying28 hi N M L rfl (by decide) v l.length (l.flatMap fX) hs I ⟨J,0,none⟩ 1 1 (fX (((K,V),(A,B)),D)) hx rfl (pO R) (BE _) (by omega) (by unfold maxLen;omega) (by omega) H w.heap.size rfl ?_;intro g G w' h1 h2 _ h4;refine h g G w' ?_ h2 h4
 show w'.ownsRow _ _ _ _ _ _
 rw[BK];simpa using h1
theorem vB (w:nU)(N:o.guard=none)(s x:sH)(ho:o.op=.call { callee:= .builtin .append,args:=#[s,x],argTypes:=#[35,35] })
  (A:Nat) (v:qA) (l:List It) (hs:a.eval s=v) (H:bZ w A v l) (I:Nat) (K V D:Int) (hx:a.eval x=.slice (some ⟨I,0,none⟩) 1 1)
  (O:Bk w I #[.int .i64 K,.int .i64 V,.int .i64 D] 98) (hl:l.length<=2000000) (G:A<=w.heap.size)
  (h:∀g F w',bZ w' A (.slice (some ⟨g,0,none⟩) (l.length+1) F) (l++[((K,V),D)])->w.grownBy w' v.ownBlock->g<w'.heap.size->wpList fD ops Q rest (a.put o.dst (.slice (some ⟨g,0,none⟩) (l.length+1) F)) w'):
  wpList fD ops Q (o::rest) a w:=by
 obtain⟨i0,hi,M,L,J⟩:=sG LX;refine rN w N s x 35 ho A 98 i0 _ 3 24 Tryz.underlying35 hi M L J rfl (by decide) v l.length (l.flatMap rJ) hs H ⟨I,0,none⟩ 1 1 (rJ ((K,V),D)) hx rfl (pO O) (Lc _) (by omega) (by unfold maxLen;omega) (by omega) G w.heap.size rfl ?_;intro g F w' h1 h2 _ h4;refine h g F w' ?_ h2 h4
 show w'.ownsRow _ _ _ _ _ _
 rw[BK];simpa using h1
theorem GF (w:nU)(O:o.guard=none)(s x:sH)(ho:o.op=.call { callee:= .builtin .append,args:=#[s,x],argTypes:=#[27,27] })
  (F:Nat) (v:qA) (l:LI) (hs:a.eval s=v) (I:aW w F v l) (J:Nat) (A B:Int) (hx:a.eval x=.slice (some ⟨J,0,none⟩) 1 1)
  (R:Bk w J #[.int .i64 A,.int .i64 B] 32) (hl:l.length<=2000000) (H:F<=w.heap.size)
  (h:∀g G w',aW w' F (.slice (some ⟨g,0,none⟩) (l.length+1) G) (l++[(A,B)])->w.grownBy w' v.ownBlock->g<w'.heap.size->wpList fD ops Q rest (a.put o.dst (.slice (some ⟨g,0,none⟩) (l.length+1) G)) w'):
  wpList fD ops Q (o::rest) a w:=by
 obtain⟨i0,hi,N,M,L⟩:=sG mW;refine rN w O s x 27 ho F 32 i0 _ 2 16 Tryz.underlying27 hi N M L rfl (by decide) v l.length (jG l) hs I ⟨J,0,none⟩ 1 1 [.int .i64 A,.int .i64 B] hx rfl (pO R) (mV _ _) (by omega) (by unfold maxLen;omega) (by omega) H w.heap.size rfl ?_;intro g G w' h1 h2 _ h4;refine h g G w' ?_ h2 h4
 show w'.ownsRow _ _ _ _ _ _
 rw[iM];simpa using h1
end
theorem dW (w:nU)(s:B=w.heap.size):aD (w.alloc (.cells #[] 55)) B (.slice (some ⟨B,0,none⟩) 0 0) []:=by
 subst s;exact lZ w _ 5
theorem mE (w:nU)(s:B=w.heap.size):bZ (w.alloc (.cells #[] 98)) B (.slice (some ⟨B,0,none⟩) 0 0) []:=by
 subst s;exact lZ w _ 3
theorem Below.aO {W A:nU}{s:Option Nat}(h:sI B w W)(hg:W.grownBy A s)(F:B<=W.heap.size)(hr:∀k,s=some k->B<=k):sI B w A:=h.grown hg F hr
theorem Bk.aO {w':nU}{c:Array qA}{s:Option Nat}(h:Bk w g c t)(hg:w.grownBy w' s)(hr:∀k,s=some k->g≠k):Bk w' g c t:=by
 unfold Bk;rw[hg.block g h.lt (fun e=>hr _ e.symm rfl)];exact h
theorem gL {α:Type}{l:List α}{x:α}(h:l[k]?=some x):l.take (k+1)=l.take k++[x]:=by
 rw[List.take_add_one,h];rfl
theorem pT {α:Type}{l:List α}{x:α}(h:l[k]?=some x):l.drop k=x::l.drop (k+1):=by
 have:=(wH.1 h);obtain⟨h1,h2⟩:=this;rw[List.drop_eq_getElem_cons h1,h2]
inductive fY (r:Rw)(l L:List Rw)(k:Nat)(D:Int):Bool->Prop
 | no (h1:L=l.take k) (h2:gG aQ r l=l.take k++gG aQ r (l.drop k)) (h3:D=r.2):fY r l L k D false
 | yes (h1:L++l.drop k=gG aQ r l) (h2:L.length<=k+1):fY r l L k D true
theorem fY.start (r:Rw)(l:List Rw):fY r l [] 0 r.2 false:= .no (by simp) (by simp) rfl
theorem fY.past {r x:Rw}{l L:List Rw}(h:fY r l L k D true)(hx:l[k]?=some x):fY r l (L++[x]) (k+1) D true:=by
 cases h with
 | yes h1 h2=>exact .yes (by rw[EJ,List.singleton_append,<-pT hx];exact h1) (by simp;omega)
theorem fY.before {r x:Rw}{l L:List Rw}(h:fY r l L k D false)(hx:l[k]?=some x)(s:aQ x.1 r.1=true):fY r l (L++[x]) (k+1) D false:=by
 cases h with
 | no h1 h2 h3=>
  have hn:aQ r.1 x.1=false:=by
   cases e:aQ r.1 x.1
   ·rfl
   ·have:=eE.trans _ _ _ e s;rw[eE.irr]at this;cases this
  refine .no (by rw[gL hx,h1]) ?_ h3;rw[h2,gL hx,pT hx,EJ]
  congr 1
  show gG aQ r (x::l.drop (k+1))=x::gG aQ r (l.drop (k+1))
  simp[gG,hn,s]
theorem fY.here {r x:Rw}{l L:List Rw}(h:fY r l L k D false)(hx:l[k]?=some x)(s:aQ r.1 x.1=true):fY r l (L++[r]++[x]) (k+1) D true:=by
 cases h with
 | no h1 h2 h3=>
  have A:=(wH.1 hx).1;refine .yes ?_ ?_
  ·rw[h2,h1,pT hx];simp[gG,s]
  ·rw[h1];simp;omega
theorem fY.same {r x:Rw}{l L:List Rw}(h:fY r l L k D false)(hx:l[k]?=some x)(A:aQ r.1 x.1=false)(s:aQ x.1 r.1=false)(F:Int):fY r l (L++[(r.1,r.2+x.2)]) (k+1) F true:=by
 cases h with
 | no h1 h2 h3=>
  have G:=(wH.1 hx).1;refine .yes ?_ ?_
  ·rw[h2,h1,pT hx];simp[gG,A,s]
  ·rw[h1];simp;omega
theorem fY.dh {r:Rw}{l L:List Rw}(h:fY r l L k D false)(s:l.length<=k):L++[r]=gG aQ r l:=by
 cases h with
 | no h1 h2 h3=>rw[h2,h1,AT s];rfl
theorem fY.ct {r:Rw}{l L:List Rw}(h:fY r l L k D true)(s:l.length<=k):L=gG aQ r l:=by
 cases h with
 | yes h1 h2=>rw[AT s,List.append_nil]at h1;exact h1
theorem fY.len {r:Rw}{l L:List Rw}{b:Bool}(h:fY r l L k D b):L.length<=k+1:=by
 cases h with
 | no h1 h2 h3=>rw[h1];simp;omega
 | yes h1 h2=>exact h2
theorem fY.cd {r:Rw}{l L:List Rw}(h:fY r l L k D false):D=r.2:=by
 cases h with
 | no h1 h2 h3=>exact h3
theorem JM (v:qA)(l:List Rw)(K V A B D:Int)(w:nU)(h:Rs w v l)(hl:l.length<=1000000)
  (v7:∀x∈l,x.1=((K,V),(A,B)) -> -4611686018427387904<=D+x.2/\D+x.2<=4611686018427387904):
  oO fD 150 #[v,rv K V A B D] w fun e w'=>∃o:qA,e=.returned o/\aD w' w.heap.size o (gG aQ (((K,V),(A,B)),D) l)/\sI w.heap.size w w':=by
 have b0:=(Bk.new (w:=w) #[.int .i64 K,.int .i64 V,.int .i64 A,.int .i64 B,.int .i64 D] 55 rfl).alloc (.cells #[] 55);have o0:=dW (w.alloc (.cells #[.int .i64 K,.int .i64 V,.int .i64 A,.int .i64 B,.int .i64 D] 55)) (B:=w.heap.size+1) (by simp);have v8:=aG (aG (Ga w.heap.size w) (.cells #[.int .i64 K,.int .i64 V,.int .i64 A,.int .i64 B,.int .i64 D] 55)) (.cells #[] 55);have e1:Hid _:=v7;obtain⟨a,g8,rfl,hc,hm,hn,y8⟩:=Rs.open h;unfold maxLen at hm;have HC:=(show Hid _ from y8);clear y8 h v7;go_enter Tryz.func150,Tryz.ntmps150;go_wp2_with fail
 go_loopw [5,6,7] (fun o dn i wr=>∃(k:Nat)(bd:Bool)(L:List Rw)(S:Int),k<=l.length/\i=.int .i64 k/\dn=.bool bd/\fY (((K,V),(A,B)),D) l L k S bd/\aD wr (w.heap.size+1) o L/\Bk wr w.heap.size #[.int .i64 K,.int .i64 V,.int .i64 A,.int .i64 B,.int .i64 S] 55/\w.heap.size+1<=wr.heap.size/\sI w.heap.size w wr) (fun _ _ i _=>l.length-(intOf i).toNat)
 case atStart=>exact⟨0,false,[],D,by omega,rfl,rfl,fY.start _ _,o0,b0,by simp,v8⟩
 case round=>
  clear o0 b0 v8;obtain⟨k,bd,L,S,hk,rfl,rfl,z7,u4,Z,b5,hb⟩:=hrel;have T:=(show Hid _ from z7);have HO:Hid (aD wr (w.heap.size+1) u5 L):=u4;have hL:=z7.len;clear z7 u4
  by_cases b7:k<l.length
  ·obtain⟨g,off,K',V',A',B',D0,rfl,hg,hr,c0,c1,c2,c3,c4⟩:=HC.out k b7;have d0:∀p:dH wr,p.ww.cell? ⟨g,off+k*5,none⟩=some (.int .i64 K'):=fun p=>cB p.below (cB hb c0);have d1:∀p:dH wr,p.ww.cell? ⟨g,off+k*5+1,none⟩=some (.int .i64 V'):=fun p=>cB p.below (cB hb c1);have d2:∀p:dH wr,p.ww.cell? ⟨g,off+k*5+2,none⟩=some (.int .i64 A'):=fun p=>cB p.below (cB hb c2);have d3:∀p:dH wr,p.ww.cell? ⟨g,off+k*5+3,none⟩=some (.int .i64 B'):=fun p=>cB p.below (cB hb c3);have d4:∀p:dH wr,p.ww.cell? ⟨g,off+k*5+4,none⟩=some (.int .i64 D0):=fun p=>cB p.below (cB hb c4);have t0:∀p:dH wr,p.ww.cell? ⟨w.heap.size,0,none⟩=some (.int .i64 K):=fun p=>(Z.keep p.below).aa.1;have t1:∀p:dH wr,p.ww.cell? ⟨w.heap.size,1,none⟩=some (.int .i64 V):=fun p=>(Z.keep p.below).aa.2.1;have t2:∀p:dH wr,p.ww.cell? ⟨w.heap.size,2,none⟩=some (.int .i64 A):=fun p=>(Z.keep p.below).aa.2.2.1;have t3:∀p:dH wr,p.ww.cell? ⟨w.heap.size,3,none⟩=some (.int .i64 B):=fun p=>(Z.keep p.below).aa.2.2.2.1;have t4:∀p:dH wr,p.ww.cell? ⟨w.heap.size,4,none⟩=some (.int .i64 S):=fun p=>(Z.keep p.below).aa.2.2.2.2;have HR:=(show Hid _ from hr);have HX:Hid (∀W,sI w.heap.size w W->W.cell? ⟨g,off+k*5,none⟩=some (.int .i64 K')/\W.cell? ⟨g,off+k*5+1,none⟩=some (.int .i64 V')/\W.cell? ⟨g,off+k*5+2,none⟩=some (.int .i64 A')/\W.cell? ⟨g,off+k*5+3,none⟩=some (.int .i64 B')/\W.cell? ⟨g,off+k*5+4,none⟩=some (.int .i64 D0)):=
    fun W hW=>⟨cB hW c0,cB hW c1,cB hW c2,cB hW c3,cB hW c4⟩
   clear c0 c1 c2 c3 c4 hr;have hne:=jC wr;have ik:((k:Int)<(l.length:Int)):=by omega
   have G:=yJ ((K',V'),(A',B')) ((K,V),(A,B));have H:=Ml ((K',V'),(A',B')) ((K,V),(A,B));obtain⟨r,y7⟩:∃r,iI ((K',V'),(A',B')) ((K,V),(A,B))=r:=⟨_,rfl⟩;rw[y7]at G H;go_wp2_with fail
   (refine jJ (by kernel_rfl) (by kernel_rfl) ?_;(repeat (go_big_quiet_step ((first|(go_at_call 187;exact iJ (q8 (by with_reducible assumption) _))))));refine oJ ?_)
   intro w1 U
   replace U:=jM U
   have x6:=aH hb U;have I:=Z.keep U;have h9:Hid (aD w1 (w.heap.size+1) u5 L):=bJ HO.out U;have a0:w.heap.size+1<=w1.heap.size:=Nat.le_trans b5 U.size;obtain⟨x0,x1,x2,x3,x4⟩:=HX.out w1 x6;obtain⟨y0,y1,y2,y3,y4⟩:=I.aa;clear d0 d1 d2 d3 d4 t0 t1 t2 t3 t4 hne HO Z hb;cases bd
   ·have v2:S=D:=T.out.cd;subst v2;cases R:aQ ((K,V),(A,B)) ((K',V'),(A',B'))
    ·cases Y:aQ ((K',V'),(A',B')) ((K,V),(A,B))
     ·-- the same
      have u8:=eE.tri _ _ Y R;simp only[Prod.mk.injEq]at u8;obtain⟨⟨rfl,rfl⟩,rfl,rfl⟩:=u8;have u0:r=0:=by rw[Y]at G;rw[R]at H;simp at G H;omega
      subst u0;obtain⟨b3,b2⟩:=e1.out _ (List.mem_of_getElem? HR.out) rfl;dsimp only at b3 b2;have HZ:=(show Hid _ from T.out.same HR.out R Y (S+D0));have iw:Md.wrap (S+D0)=S+D0:=by rw[Lx];omega
      have f4:=I.free 4;clear G H y7 R Y T
      go_upto_region 11 with fail
      have v0:=(I.set 4 (.int .i64 (S+D0))).drew;have b9:sI w.heap.size w (w1.setCell ⟨w.heap.size,4,none⟩ (.int .i64 (S+D0))).drew:=(x6.setCell (by simp) _).drew;have O2:aD (w1.setCell ⟨w.heap.size,4,none⟩ (.int .i64 (S+D0))).drew (w.heap.size+1) u5 L:=A1 h9.out fun q hq _=>sI.heap_setCell _ _ _ _ (by simp;omega);have g4:w.heap.size+1<=(w1.setCell ⟨w.heap.size,4,none⟩ (.int .i64 (S+D0))).drew.heap.size:=by simpa using a0
      go_region
      generalize nU.drew _=w2 at*;have z9:Bk w2 w.heap.size #[.int .i64 K',.int .i64 V',.int .i64 A',.int .i64 B',.int .i64 (S+D0)] 55:=v0;obtain⟨z0,z1,z2,z3,z4⟩:=z9.aa;clear x0 x1 x2 x3 x4 y0 y1 y2 y3 y4 f4 v0 I x6 U h9
      go_wp2_with (at_builtin;refine jZ _ rfl _ _ rfl (w.heap.size+1) _ _ rfl (O2.alloc _) _ _ _ _ _ _ rfl (Bk.new _ _ rfl) (by omega) (by simp;omega) ?_;intro g3 y6 O F s z8)
      have J:sI w.heap.size w O:=Below.aO (aG b9 _) s (by simp;omega) (fun q e=>by have:=oB O2 q e;omega);have M:=(z9.alloc _).aO s (fun q e=>by have:=oB O2 q e;omega);have x9:w.heap.size+1<=O.heap.size:=by have:=s.size;simp at this;omega
      go_roundw
      case rel=>exact⟨k+1,true,_,_,by omega,by go_num,rfl,HZ.out,F,M,x9,J⟩
      case measure=>simp[intOf];omega
     ·-- before
      have u0:decide (r>0)=false:=by rw[Y]at G;rw[R]at H;simp at G H ⊢;omega
      have g7:(r==0)=false:=by rw[Y]at G;simp at G ⊢;omega
      have HZ:=(show Hid _ from T.out.before HR.out Y);have N:=h9.out;clear G H y7 R Y T h9
      go_wp2_with (at_builtin;refine jZ _ rfl _ _ rfl (w.heap.size+1) _ _ rfl (N.alloc _) _ _ _ _ _ _ rfl (Bk.new _ _ rfl) (by omega) (by simp;omega) ?_;intro g3 y6 O F s z8)
      have J:sI w.heap.size w O:=Below.aO (aG x6 _) s (by simp;omega) (fun q e=>by have:=oB N q e;omega);have M:=(I.alloc _).aO s (fun q e=>by have:=oB N q e;omega);have x9:w.heap.size+1<=O.heap.size:=by have:=s.size;simp at this;omega
      go_roundw
      case rel=>exact⟨k+1,false,_,_,by omega,by go_num,rfl,HZ.out,F,M,x9,J⟩
      case measure=>simp[intOf];omega
    ·-- here
     have u0:decide (r>0)=true:=by rw[R]at H;simp at H ⊢;omega
     have HZ:=(show Hid _ from T.out.here HR.out R);have N:=h9.out;clear G H y7 R T h9
     go_upto_region 10 with (at_builtin;refine jZ _ rfl _ _ rfl (w.heap.size+1) _ _ rfl (N.alloc _) _ _ _ _ _ _ rfl (Bk.new _ _ rfl) (by omega) (by simp;omega) ?_;intro g3 y6 O F s z8)
     have J:sI w.heap.size w O:=Below.aO (aG x6 _) s (by simp;omega) (fun q e=>by have:=oB N q e;omega);have M:=(I.alloc _).aO s (fun q e=>by have:=oB N q e;omega);have x9:w.heap.size+1<=O.heap.size:=by have:=s.size;simp at this;omega
     obtain⟨z0,z1,z2,z3,z4⟩:=HX.out O J;clear x0 x1 x2 x3 x4 y0 y1 y2 y3 y4 s N I x6 U
     go_wp2_with (at_builtin;refine jZ _ rfl _ _ rfl (w.heap.size+1) _ _ rfl (F.alloc _) _ _ _ _ _ _ rfl (Bk.new _ _ rfl) (by simp;omega) (by simp;omega) ?_;intro g5 g1 w5 w9 x5 f3)
     have b8:sI w.heap.size w w5:=Below.aO (aG J _) x5 (by simp;omega) (fun q e=>by have:=oB F q e;omega);have a1:=(M.alloc _).aO x5 (fun q e=>by have:=oB F q e;omega);have b6:w.heap.size+1<=w5.heap.size:=by have:=x5.size;simp at this;omega
     go_roundw
     case rel=>exact⟨k+1,true,_,_,by omega,by go_num,rfl,HZ.out,by simpa using w9,a1,b6,b8⟩
     case measure=>simp[intOf];omega
   ·-- past
    have HZ:=(show Hid _ from T.out.past HR.out);have N:=h9.out;clear G H y7 T h9
    go_wp2_with (at_builtin;refine jZ _ rfl _ _ rfl (w.heap.size+1) _ _ rfl (N.alloc _) _ _ _ _ _ _ rfl (Bk.new _ _ rfl) (by omega) (by simp;omega) ?_;intro g3 y6 O F s z8)
    have J:sI w.heap.size w O:=Below.aO (aG x6 _) s (by simp;omega) (fun q e=>by have:=oB N q e;omega);have M:=(I.alloc _).aO s (fun q e=>by have:=oB N q e;omega);have x9:w.heap.size+1<=O.heap.size:=by have:=s.size;simp at this;omega
    go_roundw
    case rel=>exact⟨k+1,true,_,_,by omega,by go_num,rfl,HZ.out,F,M,x9,J⟩
    case measure=>simp[intOf];omega
  ·cases bd
   ·have HZ:Hid (L++[(((K,V),(A,B)),D)]=gG aQ (((K,V),(A,B)),D) l):=T.out.dh (by omega);have v2:S=D:=T.out.cd;subst v2;obtain⟨y0,y1,y2,y3,y4⟩:=Z.aa;have N:=HO.out;clear HO T
    go_wp2_with (at_builtin;refine jZ _ rfl _ _ rfl (w.heap.size+1) _ _ rfl (N.alloc _) _ _ _ _ _ _ rfl (Bk.new _ _ rfl) (by omega) (by simp;omega) ?_;intro g3 y6 O F s z8)
    have J:sI w.heap.size w O:=Below.aO (aG hb _) s (by simp;omega) (fun q e=>by have:=oB N q e;omega);go_ret;refine⟨_,rfl,?_,J⟩;rw[<- HZ.out];exact bQ F (by omega:w.heap.size<=w.heap.size+1)
   ·have HZ:Hid (L=gG aQ (((K,V),(A,B)),D) l):=T.out.ct (by omega);go_wp2_with fail;go_ret;refine⟨_,rfl,?_,hb⟩;rw[<- HZ.out];exact bQ HO.out (by omega)
theorem qQ {K:Type}(l:List (K×Int))(k:Nat):aM (l.take k)<=aM l:=by
 have:=gJ (l.take k) (l.drop k);rw[List.take_append_drop]at this;have:=nE (l.drop k);omega
theorem L2 {l:List Rw}{r:Rw}(hr:l[k]?=some r)(ha:aM l<=2305843009213693952):∀x∈iD aQ (l.take k),x.1=r.1 -> -4611686018427387904<=r.2+x.2/\r.2+x.2<=4611686018427387904:=by
 intro x hx e;have h1:=qW eE (Dz eE _) hx;rw[Db eE]at h1;have h2:=pC (l.take (k+1)) r.1;rw[gL hr,kJ,if_pos rfl]at h2;have h3:=qQ l (k+1);rw[gL hr]at h3;rw[e]at h1;omega
theorem NG {l:List Rw}{r:Rw}(hr:l[k]?=some r)(h:r.2≠0):(l.take (k+1)).filter (fun r=>decide (r.2≠0))=(l.take k).filter (fun r=>decide (r.2≠0))++[r]:=by
 rw[gL hr,E0];simp[h]
theorem OI {l:List Rw}{r:Rw}(hr:l[k]?=some r)(h:r.2=0):(l.take (k+1)).filter (fun r=>decide (r.2≠0))=(l.take k).filter (fun r=>decide (r.2≠0)):=by
 rw[gL hr,E0];simp[h]
theorem k9 (v:qA)(l:List Rw)(w:nU)(h:Rs w v l)(hl:l.length<=1000000)(ha:aM l<=2305843009213693952):
  oO fD 77 #[v] w fun e w'=>∃o:qA,e=.returned o/\aD w' w.heap.size o (aP aQ l)/\sI w.heap.size w w':=by
 have T:=dW w rfl;have H:=aG (Ga w.heap.size w) (.cells #[] 55);have HA:Hid _:=ha;obtain⟨a,z8,rfl,hc,hm,hn,J⟩:=Rs.open h;unfold maxLen at hm;have HC:=(show Hid _ from J);clear J h ha;go_enter Tryz.func77,Tryz.ntmps77;go_wp2_with fail
 go_loopw [3,4] (fun o i wr=>∃k:Nat,k<=l.length/\i=.int .i64 k/\aD wr w.heap.size o (iD aQ (l.take k))/\sI w.heap.size w wr) (fun _ i _=>l.length-(intOf i).toNat)
 case atStart=>exact⟨0,by omega,rfl,T,H⟩
 case round=>
  clear T H;obtain⟨k,hk,rfl,F,s⟩:=hrel;have I:Hid (aD wr w.heap.size u3 (iD aQ (l.take k))):=F;have hL:=DL aQ (l.take k);have y2:(l.take k).length<=k:=B3 _ _;clear F
  by_cases U:k<l.length
  ·obtain⟨g,off,K,V,A,B,D,rfl,hg,hr,Y,c1,c2,c3,c4⟩:=HC.out k U;have d0:=cB s Y;have d1:=cB s c1;have d2:=cB s c2;have d3:=cB s c3;have d4:=cB s c4;have HN:=(show Hid _ from L2 hr HA.out);have HS:Hid (iD aQ (l.take (k+1))=gG aQ (((K,V),(A,B)),D) (iD aQ (l.take k))):=by show _=_;rw[gL hr,nB]
   have Z:Rs wr u3 (iD aQ (l.take k)):=aD.rs I.out (by omega);have hz:=s.size;clear Y c1 c2 c3 c4 hr;go_wp2_with fail;refine (JM _ _ _ _ _ _ _ _ Z (by omega) HN.out).mono ?_;rintro e w1 ⟨o1,rfl,S,y0⟩;have N:=aH s y0;have R:=bQ S hz;rw[<- HS.out]at R;clear S I Z HN HS;go_wp2_with fail;go_roundw
   case rel=>exact⟨k+1,by omega,by go_num,R,N⟩
   case measure=>simp[intOf];omega
  ·obtain rfl:k=l.length:=by omega
   have hO:aD wr w.heap.size u3 (iD aQ l):=by have:=I.out;rwa [wR]at this
   rw[wR]at hL;clear I;have Z:Rs wr u3 (iD aQ l):=aD.rs hO (by omega);clear hO HC;obtain⟨W,hW⟩:∃W,W=wr:=⟨_,rfl⟩;subst hW;have HF:Hid (aP aQ l=(iD aQ l).filter fun r=>decide (r.2≠0)):=rfl;generalize iD aQ l=M at*;obtain⟨a',z2,rfl,z6,x7,z4,G⟩:=Rs.open Z;unfold maxLen at x7;have HC:=(show Hid _ from G);clear G Z y2;have T:=dW W rfl;have H:=aG (Ga W.heap.size W) (.cells #[] 55);have x8:=s.size;go_wp2_with fail
   go_loopw [5,6] (fun o i wr=>∃k:Nat,k<=M.length/\i=.int .i64 k/\aD wr W.heap.size o ((M.take k).filter fun r=>decide (r.2≠0))/\sI W.heap.size W wr/\sI w.heap.size w wr) (fun _ i _=>M.length-(intOf i).toNat)
   case atStart=>exact⟨0,by omega,rfl,T,H,aH s H⟩
   case round=>
    clear T H s;obtain⟨k,hk,rfl,F,s,N⟩:=hrel;have I:Hid (aD wr W.heap.size u5 ((M.take k).filter fun r=>decide (r.2≠0))):=F;have z7:((M.take k).filter fun r=>decide (r.2≠0)).length<=k:=Nat.le_trans (List.length_filter_le _ _) (B3 _ _);clear F
    by_cases U:k<M.length
    ·obtain⟨g,off,K,V,A,B,D,rfl,hg,hr,Y,c1,c2,c3,c4⟩:=HC.out k U;have d0:=cB s Y;have d1:=cB s c1;have d2:=cB s c2;have d3:=cB s c3;have d4:=cB s c4;clear Y c1 c2 c3 c4
     by_cases hD:D=0
     ·subst hD;have HZ:=(show Hid _ from OI hr rfl);clear hr;go_wp2_with fail;go_roundw
      case rel=>
       refine⟨k+1,by omega,by go_num,?_,s,N⟩;rw[HZ.out];exact I.out
      case measure=>simp[intOf];omega
     ·have nD:(D==0)=false:=by simpa using hD
      have HZ:=(show Hid _ from NG hr hD);have O1:aD wr W.heap.size u5 ((M.take k).filter fun r=>decide (r.2≠0)):=I.out;have hz:=s.size;clear hr I;generalize ((M.take k).filter fun r=>decide (r.2≠0))=L at*
      go_wp2_with (at_builtin;refine jZ _ rfl _ _ rfl W.heap.size _ _ rfl (O1.alloc _) _ _ _ _ _ _ rfl (Bk.new _ _ rfl) (by omega) (by simp;omega) ?_;intro g3 z1 w3 x0 O z5)
      have x9:sI W.heap.size W w3:=Below.aO (aG s _) O (by simp;omega) (oB O1);have x1:sI w.heap.size w w3:=Below.aO (aG N _) O (by simp;omega) (fun q e=>by have:=oB O1 q e;omega);go_roundw
      case rel=>
       refine⟨k+1,by omega,by go_num,?_,x9,x1⟩;rw[HZ.out];exact x0
      case measure=>simp[intOf];omega
    ·obtain rfl:k=M.length:=by omega
     go_wp2_with fail;go_ret;refine⟨_,rfl,?_,N⟩;have:=bQ I.out x8;rw[wR,<-HF.out]at this;exact this
theorem Mv {l:List Rw}(h:aZ l=true):jQ l=l:=by simp[jQ,h]
theorem NL {l:List Rw}(h:aZ l=false):jQ l=[]:=by simp[jQ,h]
theorem tG {v:qA}{l:List Rw}(h:aD w B v l)(hl:l.length<=1000000)(I:B<=w.heap.size):
  oO fD 151 #[v] w fun e w'=>∃o:qA,e=.returned o/\aD w' B o (jQ l)/\sI w.heap.size w w':=by
 have F:=aD.rs h (by omega);have H:Hid (aD w B v l):=h;clear h;cases A:aZ l
 ·have HF:Hid (jQ l=[]):=NL A;go_enter lY,jU;go_wp2_with fail;refine (jO A F).mono ?_;rintro e w1 ⟨rfl,s⟩;have hs:=s.size;go_wp2_with fail;go_ret;refine⟨_,rfl,?_,aG s _⟩;rw[HF.out];exact bQ (dW w1 rfl) (by omega)
 ·have HF:Hid (jQ l=l):=Mv A;go_enter lY,jU;go_wp2_with fail;refine (jO A F).mono ?_;rintro e w1 ⟨rfl,s⟩;have G:Hid (aD w1 B v l):=bJ H.out s;go_wp2_with fail;go_ret;refine⟨_,rfl,?_,s⟩;rw[HF.out];exact G.out
theorem lF {l:List Rw}(h:aR l=true):aM l<=99999*400:=by
 have h1:=lQ (fun r hr=>lG (eY h hr));have h2:=fP h;have:(99999:Int)*l.length<=99999*400:=Int.mul_le_mul_of_nonneg_left (by omega) (by omega);omega
theorem J6 {l:List Rw}(h:aR l=true):iT l=jQ (aP aQ l):=by simp[iT,h,iW]
theorem KC {l:List Rw}(h:aR l=false):iT l=[]:=by simp[iT,h]
theorem sX (v:qA)(l:List Rw)(w:nU)(h:Rs w v l):
  oO fD 184 #[v] w fun e w'=>∃o:qA,e=.returned o/\aD w' w.heap.size o (iT l)/\sI w.heap.size w w':=by
 cases A:aR l
 ·have HF:Hid (iT l=[]):=KC A;go_enter lI,iC;go_wp2_with fail;refine (sR A h).mono ?_;rintro e w1 ⟨rfl,s⟩;have hs:=s.size;go_wp2_with fail;go_ret;refine⟨_,rfl,?_,aG s _⟩;rw[HF.out];exact bQ (dW w1 rfl) (by omega)
 ·have HF:Hid (iT l=jQ (aP aQ l)):=J6 A;have ha:=lF A;have hl:=fP A;have Y:=i6 aQ l;go_enter lI,iC;go_wp2_with fail;refine (sR A h).mono ?_;rintro e w1 ⟨rfl,s⟩;have h1:=h.keep s;have L:=s.size;go_wp2_with fail;refine (k9 _ l _ h1 (by omega) (by omega)).mono ?_;rintro e O ⟨S,rfl,G,H⟩;have V:=H.size;have J:=aH s H;have U:Hid (aD O w1.heap.size S (aP aQ l)):=G;clear G;go_wp2_with fail;refine (tG U.out (by omega) (by omega)).mono ?_;rintro e N ⟨R,rfl,F,M⟩;have I:=aH J M;have T:Hid (aD N w1.heap.size R (jQ (aP aQ l))):=F;clear F;go_wp2_with fail;go_ret;refine⟨_,rfl,?_,I⟩;rw[HF.out];exact bQ T.out L
end Go.Proofs.YtbdpcngcbnoioaaGreatDoor
