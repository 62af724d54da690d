import Derived.Lib.SliceRun
import Derived.Test.YtbdpcngcbnoioaaGreatDoorGb3
set_option maxHeartbeats 1000000
namespace Go.Proofs.YtbdpcngcbnoioaaGreatDoor
open Go.RowKit
open _root_.List renaming getElem?_take->fM,getD_eq_getElem?_getD->fQ,getElem?_set->gD
open _root_.Array renaming getElem?_setIfInBounds->gM,getElem?_toList->gQ
open Go renaming Value->gX,Calls->iM
variable {B g i:Nat}{a b c d x y:Int}{l:LI}{r:Bool}{v:gX}{w:World}
theorem IZ (l:LI):(dR l).length<=64:=by
 unfold dR;split
 ·exact Ep l 64
 ·simp
theorem F4 {n:Nat}{p:Int}(h:Rd B w g v n p)(hp:0<=p)(O:p<=800000):
  iM Tryz.prog 149 #[.pointer (some ⟨g,0,none⟩)] w fun e H=>∃(o:gX)(f:LI),e=.returned o/\f.length<=64/\bW H w.heap.size o f/\(∃I:Int,p<=I/\I<=p+400/\Rd B H g v n I)/\Bx g w H:=by
 go_enter Tryz.func149,Tryz.ntmps149;go_wp2_with fail;refine (F7 h hp O _ (by omega) (by omega)).mono ?_;rintro e w1 ⟨o,l,rfl,hl,A,⟨R,M,L,J⟩,D⟩;have ts:=A.ts (by omega);clear A;go_wp2_with fail;refine (uK o l w1 ts).mono ?_;rintro e T ⟨S,rfl,s,G⟩;have Q:=IZ l;have hs:=D.size;have ho:=cW s hs;clear s;go_wp2_with fail;go_ret;exact⟨S,dR l,rfl,Q,ho,⟨R,M,L,J.aa G⟩,D.trans (Bx.aD G)⟩
theorem r9 {e f:Int}(h:cX a b c d=true)(s:cX c d e f=true):cX a b e f=true:=by
 simp[cX]at *;exact⟨⟨⟨h.1.1.1,s.1.1.2⟩,by omega⟩,by omega⟩
theorem F9 (a b:Int):cX a b a b=bM a b:=by simp[cX]
theorem Jc (h:iN l x y=true):∃k,k<l.length/\cX (tA l k) (tB l k) x y=true:=by
 unfold iN at h;rw[List.any_eq_true]at h;obtain⟨k,s,h⟩:=h;exact⟨k,by simpa using s,h⟩
theorem Jd {X Y:Int}(h:iN l x y=true)(A:cX x y X Y=true):iN l X Y=true:=by
 obtain⟨k,s,h⟩:=Jc h;exact vX s (r9 h A)
theorem KC (h:dA l=true){k:Nat}(s:k<l.length):bM (tA l k) (tB l k)=true:=by
 have:=Eo h s;simp[fR]at this;exact this.1
theorem Di (h:(dA l&&iN l x y)=r)(A:Ts w v l):iM Tryz.prog 29 #[v,tv x y] w fun e s=>e=.returned (.bool r)/\Below w.heap.size w s:=by
 rw[<- h];exact C8 v l x y w A
theorem E4 (h:(dA l&&iN l x y)=r)(A:Ts w v l):iM Tryz.prog 62 #[v,tv x y] w fun e s=>e=.returned (.bool r)/\Below w.heap.size w s:=by
 rw[<- h];exact CS v l x y w A
theorem sQ (h:dA l=r)(A:Ts w v l):iM Tryz.prog 68 #[v] w fun e s=>e=.returned (.bool r)/\Below w.heap.size w s:=by
 rw[<- h];exact uL v l w A
theorem fH :bM a b=true↔0<=a/\a<=7/\0<=b/\b<=7:=by simp[bM]
theorem gY :cX a b c d=true↔bM a b=true/\bM c d=true/\a<=c/\b<=d:=by simp[cX,and_assoc]
theorem Nr (h:bM a b=true)(s:bM c d=true):k9 a b c d=max a c/\kA a b c d=max b d:=by simp[k9,kA,h,s]
theorem Ik (h:bM a b=true)(s:bM c d=true):bM (k9 a b c d) (kA a b c d)=true:=by
 obtain⟨D,A⟩:=Nr h s;rw[D,A,fH];rw[fH]at h s;omega
theorem Mi (h:cX a b c d=true)(s:cX c d a b=true):a=c/\b=d:=by
 rw[gY]at h s;omega
theorem G3 {c:Array gX}{F:LI}(h:jM c F F.length):c.toList.take (F.length*2)=jR F:=by
 apply List.ext_getElem?
 intro i
 by_cases hi:i<F.length*2
 ·rw[fM,if_pos hi,gQ]
  rcases Nat.mod_two_eq_zero_or_one i with e|e
  ·obtain⟨q,rfl⟩:∃q,i=q*2:=⟨i / 2,by omega⟩;rw[(h q (by omega)).1,(q7 F q (by omega)).1]
  ·obtain⟨q,rfl⟩:∃q,i=q*2+1:=⟨i / 2,by omega⟩;rw[(h q (by omega)).2,(q7 F q (by omega)).2]
 ·rw[fM,if_neg hi,List.getElem?_eq_none (by rw[xO];omega)]
theorem AE {s:Nat}{c:Array gX}{F:LI}(h:Bk w g c 32)(hf:jM c F F.length)(hs:c.size=s*2)(A:F.length<=s)(hm:s<=maxLen)(hg:B<=g):
  bW w B (.slice (some ⟨g,0,none⟩) F.length s) F:=
 ⟨xO F,.inr ⟨g,s,c,rfl,hg,h,A,hm,hs,G3 hf⟩⟩
theorem mZ (h:bW w B v l):(v=.slice none 0 0/\l=[]) \/
  ∃g s c,v=.slice (some ⟨g,0,none⟩) l.length s/\B<=g/\Bk w g c 32/\c.size=s*2/\l.length<=s/\s<=maxLen/\jM c l l.length:=by
 obtain⟨h1,⟨rfl,h2⟩|⟨g,s,cur,rfl,hg,G,H,hm,hs,A⟩⟩:=h
 ·exact .inl ⟨rfl,List.eq_nil_of_length_eq_zero h2⟩
 ·refine .inr ⟨g,s,cur,rfl,hg,G,hs,H,hm,fun i hi=>?_⟩;have e:∀j,j<l.length*2->cur[j]?=(jR l)[j]?:=by
   intro j D;rw[<- A,fM,if_pos D,gQ]
  rw[e _ (by omega),e _ (by omega)];exact q7 l i hi
theorem Bk.setCells {t:TypeId}(vs:List gX):∀{w:World}{c:Array gX}(o:Nat),Bk w g c t->∃c':Array gX,Bk (w.setCells g o vs) g c' t/\c'.size=c.size/\(∀i,i<o->c'[i]?=c[i]?)/\Bx g w (w.setCells g o vs):=by
 induction vs with
 | nil=>exact fun o h=>⟨_,h,rfl,fun _ _=>rfl,Bx.refl _ _⟩
 | cons v r ih=>
  intro w c o h;obtain⟨c',h1,h2,h3,h4⟩:=ih (o+1) (h.set o v);refine⟨c',h1,by rw[h2];simp,fun i hi=>?_,(Bx.bj (Bx.refl g w) rfl v).trans h4⟩;rw[h3 i (by omega),gM,if_neg (by omega)]
def J7 (x y:Int)(p:Int×Int):Bool:=!cX x y p.1 p.2
theorem Bt {c:Array gX}{t:TypeId}(h:Bk w g c t)(hi:i<c.size):∃y,w.cell? ⟨g,i,none⟩=some y:=⟨_,h.cell (Array.getElem?_eq_getElem hi)⟩
theorem QE (h:bW w B v l):∀k,v.ownBlock=some k->k<w.heap.size:=by
 intro k s
 rcases mZ h with⟨rfl,_⟩|⟨g,D,c,rfl,_,A,_⟩
 ·cases s
 ·have:g=k:=by simpa[gX.ownBlock]using s
  subst this;exact A.lt
def wG (acc:LI)(p:Int×Int):LI:=if iN acc p.1 p.2 then acc else acc.filter (J7 p.1 p.2)++[p]
def El (l:LI)(k:Nat):LI:=(l.take k).foldl wG []
theorem QO (L:LI)(hi:i<L.length)(p:Int×Int)(k:Nat):tA (L.set i p) k=if i=k then p.1 else tA L k:=by
 unfold tA;rw[fQ,gD]
 by_cases h:i=k
 ·subst h;simp[hi]
 ·simp[h]
theorem QP (L:LI)(hi:i<L.length)(p:Int×Int)(k:Nat):tB (L.set i p) k=if i=k then p.2 else tB L k:=by
 unfold tB;rw[fQ,gD]
 by_cases h:i=k
 ·subst h;simp[hi]
 ·simp[h]
theorem jM.set {c:Array gX}{L:LI}{n:Nat}(h:jM c L n)(hi:i<n)(hn:n=L.length)(hs:n*2<=c.size)(X Y:Int):
  jM ((c.setIfInBounds (i*2) (.int .i64 X)).setIfInBounds (i*2+1) (.int .i64 Y)) (L.set i (X,Y)) n:=by
 intro k D;rw[QO L (by omega),QP L (by omega)]
 by_cases e:i=k
 ·subst e;rw[if_pos rfl,if_pos rfl];have n2:i*2<c.size:=by omega
  have s:i*2+1<c.size:=by omega
  simp[n2,s]
 ·rw[if_neg e,if_neg e];have n1:¬i*2+1=k*2:=by omega
  have n2:¬i*2=k*2:=by omega
  have s:¬i*2+1=k*2+1:=by omega
  have A:¬i*2=k*2+1:=by omega
  simp only[gM,n1,n2,s,A,if_false];exact h k D
end Go.Proofs.YtbdpcngcbnoioaaGreatDoor
