import Derived.Test.YtbdpcngcbnoioaaGreatDoorGs2
import Derived.Test.YtbdpcngcbnoioaaGreatDoorGd1
import Derived.Test.YtbdpcngcbnoioaaGreatDoorGb0
namespace Go.Proofs.YtbdpcngcbnoioaaGreatDoor
open Go.RowKit
open Go.Proofs.Tryz renaming prog->fD,ntmps26->fH,func26->fV
open Go renaming Value->gY,Calls->gZ
variable {v:gY}{w:World}
set_option maxHeartbeats 4000000
open Go.RowKit
def OJ (l:List Rw):Prop:=l.length<=11/\(aR l=true->∀r∈l,lN r)
theorem GH {B:Nat}{g:Nat}{n:Nat}{p:Int}(h:Rd B w g v n p)(hp:0<=p)(x8:p<=600000):
  gZ fD 92 #[.pointer (some ⟨g,0,none⟩)] w fun e J=>∃(o:gY)(l:List Rw),e=.returned o/\OJ l/\aD J w.heap.size o l/\(∃L:Int,p<=L/\L<=p+700/\Rd B J g v n L)/\Bx g w J:=by
 have hg:=h.blk.lt;go_enter Tryz.func92,Tryz.ntmps92;go_wp2_with fail;refine (zM h hp (by omega) 10 (by omega) (by omega)).mono ?_;rintro e w1 ⟨o,l,rfl,hl,H,A,⟨p1,x7,x6,S⟩,G⟩;have x3:=G.size;have HO:Hid (aD w1 w.heap.size o l):=A;have HS:Hid (∀r∈l,lN r):=H;clear A H;go_wp2_with fail;refine (pA S (by omega) (by omega) _ (by omega) (by omega)).mono ?_;rintro e M ⟨k,rfl,y2,y1,I,F⟩;have a:=G.trans F;have D:Hid (aD M w.heap.size o l):=oX HO.out F hg;have Q:=a.size
 by_cases T:k=0
 ·subst T;go_wp2_with fail;refine (E6 I (by omega) (by omega) o l (aD.rs D.out (by omega)) (by omega) (fun W hW=>aD.rs (oX D.out hW hg) (by omega))).mono ?_;rintro e Y ⟨o3,N,rfl,x9,U,s,⟨Z,x5,x4,R⟩,O⟩;have V:Hid (aD Y M.heap.size o3 N):=s;clear s;go_wp2_with fail;go_ret;exact⟨_,N,rfl,⟨by omega,fun e=>by rw[U]at e;cases e⟩,bQ V.out Q,⟨Z,by omega,by omega,R⟩,a.trans O⟩
 ·have y0:(k==0)=false:=by simpa using T
  go_wp2_with fail;go_ret;exact⟨_,l,rfl,⟨by omega,fun _=>HS.out⟩,D.out,⟨_,by omega,by omega,I⟩,a⟩
theorem ES {B:Nat}{g:Nat}{n:Nat}{p:Int}(h:Rd B w g v n p)(hp:0<=p)(Y:p<=600000)(a:Int)(Q:0<=a)(O:a<=10):
  gZ fD 127 #[.pointer (some ⟨g,0,none⟩),.int .i64 a] w fun e H=>∃(o:gY)(l:List Rw),e=.returned o/\(l.length:Int)<=a/\(∀r∈l,lN r)/\aD H w.heap.size o (iT l)/\(∃I:Int,p<=I/\I<=p+600/\Rd B H g v n I)/\Bx g w H:=by
 go_enter Tryz.func127,Tryz.ntmps127;go_wp2_with fail;refine (zM h hp (by omega) a Q O).mono ?_;rintro e w1 ⟨o,l,rfl,hl,F,A,⟨S,N,M,L⟩,D⟩;have J:=D.size;have V:Hid (∀r∈l,lN r):=F;have U:Rs w1 o l:=aD.rs A (by omega);clear A F;go_wp2_with fail;refine (sX o l _ U).mono ?_;rintro e R ⟨T,rfl,s,G⟩;have W:Hid (aD R w1.heap.size T (iT l)):=s;clear s;go_wp2_with fail;go_ret;exact⟨_,l,rfl,hl,V.out,bQ W.out J,⟨S,N,M,L.aX G⟩,D.trans (Bx.aA G)⟩
theorem yW (a:Option Addr)(len G:Nat)(w:World)(h:Src w (.slice a len G) len):
  gZ fD 31 #[.slice a len G] w fun e H=>∃(o s:gY)(l:List Rw)(f:LI),e=.returned (.tuple #[o,s])/\OJ l/\f.length<=65/\Rs H o l/\Ts H s f/\Below w.heap.size w H:=by
 go_enter Tryz.func31,Tryz.ntmps31;go_wp2_with fail;refine (BB _ _ _ _ h).mono ?_;rintro e w1 ⟨rfl,⟨v,n,D⟩,F⟩;clear h;have L:=F.size;have hg:=D.blk.lt;go_wp2_with fail;refine (GH D (by omega) (by omega)).mono ?_;rintro e R ⟨o,l,rfl,hd,A,⟨V,U,T,M⟩,J⟩;have Q:Hid (aD R w1.heap.size o l):=A;clear A;go_wp2_with fail;refine (FS M (by omega) (by omega)).mono ?_;rintro e I ⟨s,f,rfl,N,g,-,B⟩;have O:Hid (Ts I s f):=aW.ts g (by omega);have S:Hid (Rs I o l):=aD.rs (oX Q.out B hg) (by have:=hd.1;omega);clear g Q;go_wp2_with fail;refine bodyPost_ret (by simp[results,Tryz.results31,go_sem];try rfl) rfl ?_;exact⟨o,s,l,f,rfl,hd,N,S.out,O.out,(J.trans B).below F L (Nat.le_refl _)⟩
theorem Lp {α:Type}{l l':List α}(hn:l.length=l'.length)(h:∀j:Nat,j<l.length->l[j]?=l'[j]?):l=l':=by
 apply List.ext_getElem?
 intro i
 by_cases hi:i<l.length
 ·exact h i hi
 ·rw[List.getElem?_eq_none (by omega),List.getElem?_eq_none (by omega)]
theorem GU (v v':gY)(l l':List Rw)(w:World)(h:Rs w v l)(h':Rs w v' l'):
  gZ fD 26 #[v,v'] w fun e w'=>e=.returned (.bool (decide (l=l')))/\Below w.heap.size w w':=by
 obtain⟨a,y4,rfl,hc,hm,hn,H⟩:=Rs.open h;obtain⟨a',x9,rfl,x3,x1,x0,F⟩:=Rs.open h';unfold maxLen at hm x1;have HC:=(show Hid _ from H);have T:=(show Hid _ from F);clear H F h h'
 by_cases G:l.length=l'.length
 ·have HE:Hid (l.length=l'.length):=G;rw[<- G]at x3 T ⊢;clear G x0;go_enter fV,fH;go_wp2_with fail
  go_loopw [5] (fun i wr=>∃k:Nat,k<=l.length/\i=.int .i64 k/\(∀j:Nat,j<k->l[j]?=l'[j]?)/\Below w.heap.size w wr) (fun i _=>l.length-(intOf i).toNat)
  case atStart=>exact⟨0,by omega,rfl,fun j hj=>by omega,Below.refl _ _⟩
  case round=>
   obtain⟨k,hk,rfl,J,s⟩:=hrel;have HA:=(show Hid _ from J);clear J
   by_cases S:k<l.length
   ·obtain⟨g,off,K,V,A,B,D,rfl,hg,hr,c0,c1,c2,c3,c4⟩:=HC.out k S;obtain⟨g',x8,O,N,R,B',Q,rfl,y3,I,p0,Z,Y,W,U⟩:=T.out k S;have d0:=cB s c0;have d1:=cB s c1;have d2:=cB s c2;have d3:=cB s c3;have d4:=cB s c4;have e0:=cB s p0;have e1:=cB s Z;have e2:=cB s Y;have e3:=cB s W;have e4:=cB s U;clear c0 c1 c2 c3 c4 p0 Z Y W U;have L:Hid ((((K,V),(A,B)),D)≠(((O,N),(R,B')),Q)->decide (l=l')=false):=fun h=>decide_eq_false fun e=>h (by rw[e,I]at hr;exact (Option.some.inj hr).symm);have HY:Hid ((((K,V),(A,B)),D)=(((O,N),(R,B')),Q)->∀j:Nat,j<k+1->l[j]?=l'[j]?):=fun h j hj=>by
     by_cases e:j=k
     ·subst e;rw[hr,I,h]
     ·exact HA.out j (by omega)
    clear hr I;have ik:((k:Int)<(l.length:Int)):=by omega
    by_cases h0:K=O
    ·subst h0
     by_cases h1:V=N
     ·subst h1
      by_cases h2:A=R
      ·subst h2
       by_cases h3:B=B'
       ·subst h3
        by_cases h4:D=Q
        ·subst h4;go_wp2_with fail
         go_quiet (fail)
         go_wp2_with fail;go_roundw
         case rel=>exact⟨k+1,by omega,by go_num,HY.out (by simp),dC s _⟩
         case measure=>simp[intOf];omega
        ·have M:(D==Q)=false:=beq_eq_false_iff_ne.2 h4;go_wp2_with fail
         go_quiet (fail)
         go_wp2_with fail;go_ret;exact⟨rB (L.out (fun h=>h4 (by simp at h;simp[h]))).symm,dC s _⟩
       ·have M:(B==B')=false:=beq_eq_false_iff_ne.2 h3;go_wp2_with fail
        go_quiet (fail)
        go_wp2_with fail;go_ret;exact⟨rB (L.out (fun h=>h3 (by simp at h;simp[h]))).symm,dC s _⟩
      ·have M:(A==R)=false:=beq_eq_false_iff_ne.2 h2;go_wp2_with fail
       go_quiet (fail)
       go_wp2_with fail;go_ret;exact⟨rB (L.out (fun h=>h2 (by simp at h;simp[h]))).symm,dC s _⟩
     ·have M:(V==N)=false:=beq_eq_false_iff_ne.2 h1;go_wp2_with fail
      go_quiet (fail)
      go_wp2_with fail;go_ret;exact⟨rB (L.out (fun h=>h1 (by simp at h;simp[h]))).symm,dC s _⟩
    ·have M:(K==O)=false:=beq_eq_false_iff_ne.2 h0;go_wp2_with fail
     go_quiet (fail)
     go_wp2_with fail;go_ret;exact⟨rB (L.out (fun h=>h0 (by simp at h;simp[h]))).symm,dC s _⟩
   ·go_wp2_with fail;go_ret;exact⟨rB (decide_eq_true (Lp HE.out fun j hj=>HA.out j (by omega))).symm,s⟩
 ·have hd:decide (l=l')=false:=decide_eq_false fun e=>G (by rw[e]);rw[hd];have hne:((l.length:Int)==(l'.length:Int))=false:=beq_eq_false_iff_ne.2 (by omega);generalize l.length=n at*;generalize l'.length=n' at *;go_enter fV,fH;go_wp2_with fail;go_ret;exact⟨rfl,Below.refl _ _⟩
theorem nG {l l':List Rw}{r:Bool}(h:decide (l=l')=r){v':gY}(s:Rs w v l)(a:Rs w v' l'):
  gZ fD 26 #[v,v'] w fun e g=>e=.returned (.bool r)/\Below w.heap.size w g:=by
 rw[<- h];exact GU v v' l l' w s a
theorem Cz (l:List Rw):decide (l=l)=true:=by simp
theorem NJ {f:FuncId}{args:Array gY}{L M:List Rw}(e:M=L)(hl:M.length<=2097152)(h:gZ fD f args w fun e a=>∃o:gY,e=.returned o/\aD a w.heap.size o M/\Below w.heap.size w a):
  gZ fD f args w fun e a=>∃o:gY,e=.returned o/\Rs a o L/\Below w.heap.size w a:=by
 subst e;refine h.mono ?_;rintro e a ⟨o,rfl,own,g⟩;exact⟨o,rfl,aD.rs own hl,g⟩
theorem Et {l l' L:List Rw}(e:iY l l'=L){v':gY}(h:Rs w v l)(g:Rs w v' l'):gZ fD 27 #[v,v'] w fun e a=>∃o:gY,e=.returned o/\Rs a o L/\Below w.heap.size w a:=
 NJ e (by have:=IW l l';omega) (vY v v' l l' w h g)
theorem L8 (r:Rw)(l:List Rw):aM (gG aQ r l)<=r.2.natAbs+aM l:=by
 induction l with
 | nil=>simp[gG,aM]
 | cons x l ih=>
  unfold gG
  by_cases h1:aQ r.1 x.1=true
  ·rw[if_pos h1];simp only[aM];omega
  ·rw[if_neg h1]
   by_cases h2:aQ x.1 r.1=true
   ·rw[if_pos h2];simp only[aM];omega
   ·rw[if_neg h2];simp only[aM];omega
theorem Ik (l:List Rw):aM (iD aQ l)<=aM l:=by
 induction l using rZ with
 | h0=>simp[iD]
 | h1 l r ih=>
  rw[nB,gJ];have:=L8 r (iD aQ l);simp only[aM];omega
theorem FA (l:List Rw)(p:Rw->Bool):aM (l.filter p)<=aM l:=by
 induction l with
 | nil=>simp
 | cons r l ih=>
  rw[List.filter_cons]
  split
  ·simp only[aM];omega
  ·simp only[aM];omega
theorem Ec (l:List Rw):aM (aP aQ l)<=aM l:=Int.le_trans (FA _ _) (Ik l)
theorem JC (l:List Rw):aM (iW l)<=aM l:=by
 unfold iW jQ;split
 ·exact Ec l
 ·exact nE l
end Go.Proofs.YtbdpcngcbnoioaaGreatDoor
