import Derived.Test.YtbdpcngcbnoioaaGreatDoorAn5
set_option maxRecDepth 100000
set_option maxHeartbeats 8000000
namespace Go.Proofs.YtbdpcngcbnoioaaGreatDoor
open Go.RowKit Go.Shelf
namespace An
theorem okPlan_any (ea:Addr):∀ (d:Nat) (t:PT) {B:Nat} {s:Value} {w:World} (deep:Int),deep+d=5->d<=4->t.sm->Pow w->KdS B w t s->w.cell? ⟨0,0,none⟩=some (erV ea)->Calls Tryz.prog 138 #[pl t.k t.n s, .int .i64 deep] w (OkPost ea t d w):=by
 intro d
 induction d with
 | zero =>
  intro t B s w deep h1 _ hsm hpw hs hg;have hp:=pok_zero t
  by_cases hk:inB t.k 1 6=true
  ·obtain ⟨F,H⟩:=kind_of hk;refine (okPlan_bad ea H (PT.sm_n hsm) hpw hs hg (.inl (by omega))).mono ?_;rintro e w' ⟨rfl,hb⟩;exact ⟨.inr ⟨hp,rfl⟩,hb⟩
  ·have hk2:t.k<1\/6<t.k:=by simp [inB] at hk;omega
   obtain ⟨a,c,e⟩:=hs.sl;refine (okPlan_none ea ⟨a,_,c,e⟩ hk2 hg).mono ?_;rintro e w' ⟨rfl,hb⟩;exact ⟨.inr ⟨hp,rfl⟩,hb⟩
 | succ d ih =>
  intro t B s w deep h1 h4 hsm hpw hs hg
  by_cases hk:inB t.k 1 6=true
  ·obtain ⟨F,H⟩:=kind_of hk;cases hh:hereB t
   ·refine (okPlan_bad ea H (PT.sm_n hsm) hpw hs hg ?_).mono ?_
    ·have:¬ ((t.len:Int)=kidN t.k/\numLo t.k<=t.n/\t.n<=numHi t.k):=by
      intro hx;have:hereB t=true:=by simp [hereB,hk,hx.1];simp [inB,hx.2.1,hx.2.2]
      rw [hh] at this;cases this
     omega
    ·rintro e w' ⟨rfl,hb⟩;exact ⟨.inr ⟨pok_here hh,rfl⟩,hb⟩
   ·exact okPlan_good ea H (PT.sm_n hsm) hpw hs hg hh (by omega) (by omega) fun i hi W s' hs' hg' hp'=>ih (t.kid i) (deep+1) (by omega) (by omega) (PT.sm_kid hsm hi) hp' hs' hg'
  ·have hk2:t.k<1\/6<t.k:=by simp [inB] at hk;omega
   obtain ⟨a,c,e⟩:=hs.sl;refine (okPlan_none ea ⟨a,_,c,e⟩ hk2 hg).mono ?_;rintro e w' ⟨rfl,hb⟩;exact ⟨.inr ⟨pok_here (by simp [hereB,hk]),rfl⟩,hb⟩
def SokPost (t:PT) (d:Nat) (w:World) (e:Ending) (w':World):Prop:=e= .returned (.bool (pokB t d))/\Below w.heap.size w w'
theorem l21Ok_no {t:PT} {B d:Nat} {s:Value} {w:World} (hd:d<=4) (hs:KdS B w t s) (hh:d<1\/hereB t=false):Calls Tryz.prog 175 #[pl t.k t.n s, .int .i64 d] w fun e w'=>e= .returned (.bool false)/\Below w.heap.size w w':=by
 have bP:Bk (w.alloc (.cells #[.int .i64 t.k, .int .i64 t.n,s] 25)) w.heap.size #[.int .i64 t.k, .int .i64 t.n,s] 25:=Bk.new _ _ rfl;have hb0:Below w.heap.size w (w.alloc (.cells #[.int .i64 t.k, .int .i64 t.n,s] 25)):=bAz (Below.refl _ _) _;obtain ⟨x0,x1,x2⟩:=bP.three';obtain ⟨a,c,rfl⟩:=hs.sl;have hc:((d:Int)<1)\/(¬ (d:Int)<1/\¬ (t.len:Int)=kidN t.k)\/(¬ (d:Int)<1/\(t.len:Int)=kidN t.k/\inB t.n (numLo t.k) (numHi t.k)=false):=by
  rcases hh with h|h
  ·exact .inl (by omega)
  ·rcases Nat.lt_or_ge d 1 with h1|h1
   ·exact .inl (by omega)
   ·by_cases h2:(t.len:Int)=kidN t.k
    ·refine .inr (.inr ⟨by omega,h2,?_⟩)
     by_cases hk:inB t.k 1 6=true
     ·simp only [hereB,hk,h2,decide_true,Bool.true_and,Bool.and_self] at h;exact h
     ·exfalso
      have:kidN t.k = -1:=by
       simp [inB] at hk;have n1:¬ t.k=1:=by omega
       have n2:¬ t.k=2:=by omega
       have n3:¬ t.k=3:=by omega
       have n4:¬ t.k=4:=by omega
       have n5:¬ t.k=5:=by omega
       have n6:¬ t.k=6:=by omega
       simp [kidN,n1,n2,n3,n4,n5,n6]
      omega
    ·exact .inr (.inl ⟨by omega,h2⟩)
 clear hs hh bP;go_enter Tryz.func175,Tryz.ntmps175;go_wp2_with fail;refine (l21Kids_any t.k _).mono ?_;rintro e w1 ⟨rfl,rfl⟩
 rcases hc with h1|⟨h1,h2⟩|⟨h1,h2,h3⟩
 ·go_wp2_with fail;go_ret;exact ⟨rfl,hb0⟩
 ·go_wp2_with fail;go_ret;exact ⟨rfl,hb0⟩
 ·go_wp2_with fail;refine (l6In_any _ _ _ _).mono ?_;rintro e w1 ⟨rfl,rfl⟩;rw [h3];go_wp2_with fail;go_ret;exact ⟨rfl,hb0⟩
theorem l21Ok_yes {t:PT} {B d:Nat} {s:Value} {w:World} (hd:d<=3) (hs:KdS B w t s) (hh:hereB t=true)
  (hrec:∀ i,i<t.len->∀ (W:World) (s':Value),KdS B W (t.kid i) s'->Calls Tryz.prog 175 #[pl (t.kid i).k (t.kid i).n s', .int .i64 d] W (SokPost (t.kid i) d W)):Calls Tryz.prog 175 #[pl t.k t.n s, .int .i64 ((d+1:Nat):Int)] w (SokPost t (d+1) w):=by
 have bP:Bk (w.alloc (.cells #[.int .i64 t.k, .int .i64 t.n,s] 25)) w.heap.size #[.int .i64 t.k, .int .i64 t.n,s] 25:=Bk.new _ _ rfl;have hb0:Below w.heap.size w (w.alloc (.cells #[.int .i64 t.k, .int .i64 t.n,s] 25)):=bAz (Below.refl _ _) _;obtain ⟨x0,x1,x2⟩:=bP.three';have HSL:=(show Hid _ from hs.keep hb0);obtain ⟨a,c,rfl⟩:=hs.sl;have HR:=(show Hid _ from hrec);have HH:=(show Hid _ from hh);have hh2:((t.len:Int)=kidN t.k)/\inB t.n (numLo t.k) (numHi t.k)=true:=by
  simp only [hereB,Bool.and_eq_true,decide_eq_true_eq] at hh;exact ⟨hh.1.2,hh.2⟩
 obtain ⟨h2,h3⟩:=hh2;have htl:=here_len hh;have HLE:=(show Hid (t.len<=2) from htl);have hd2:((d+1:Nat):Int)=(d:Int)+1:=by omega
 have h1:¬ ((d:Int)+1<1):=by omega
 have hd3:((d:Int)+1)-1=(d:Int):=by omega
 rw [hd2];clear hs hrec hh hd2;go_enter Tryz.func175,Tryz.ntmps175;go_wp2_with fail;refine (l21Kids_any t.k _).mono ?_;rintro e w1 ⟨rfl,rfl⟩;go_wp2_with fail;refine (l6In_any _ _ _ _).mono ?_;rintro e w1 ⟨rfl,rfl⟩;rw [h3];go_wp2_with fail;generalize (w.alloc (.cells #[.int .i64 t.k, .int .i64 t.n, .slice a t.len c] 25))=W0 at *;clear x0 x1 x2
 go_loopw [8] (fun i wr=>∃ k:Nat,i= .int .i64 k/\k<=t.len/\(∀ j,j<k->pokB (t.kid j) d=true)/\Below W0.heap.size W0 wr) (fun i _=>t.len-(intOf i).toNat)
 case atStart=>exact ⟨0,rfl,Nat.zero_le _,fun j hj=>absurd hj (by omega),Below.refl _ _⟩
 case round =>
  obtain ⟨k,rfl,hkl,hpok,hb⟩:=hrel;have HPO:=(show Hid _ from hpok);clear hpok;have bP1:=bP.keep hb;obtain ⟨x0,x1,x2⟩:=bP1.three'
  by_cases hlt2:k<t.len
  ·have ik:((k:Int)<(t.len:Int)):=by omega
   obtain ⟨g,off,sx,rfl,hgl,c0,c1,c2,hkid,b2,m2,d2,rfl⟩:=(HSL.out.keep hb).at HLE.out hlt2;have HC:=(show Hid _ from HR.out k hlt2 wr _ hkid);clear hkid;go_wp2_with fail;refine Calls.mono HC.out ?_;rintro e w7 ⟨rfl,hb7⟩;have hb8:=bSz hb hb7;cases hp:pokB (t.kid k) d
   ·have HX:Hid (pokB t (d+1)=false):=pok_kid hlt2 hp;go_wp2_with fail;go_ret;exact ⟨by rw [HX.out];rfl,bSz hb0 hb8⟩
   ·have HN:Hid (∀ j,j<k+1->pokB (t.kid j) d=true):=fun j hj=>by
     rcases Nat.lt_or_ge j k with h|h
     ·exact HPO.out j h
     ·obtain rfl:j=k:=by omega
      exact hp
    go_wp2_with fail;go_roundw
    case rel=>exact ⟨k+1,by go_num,by omega,HN.out,hb8⟩
    case measure=>simp [intOf];omega
  ·obtain rfl:k=t.len:=by omega
   have ik:¬ ((t.len:Int)<(t.len:Int)):=by omega
   have HX:Hid (pokB t (d+1)=true):=pok_yes HH.out HPO.out;go_wp2_with fail;go_ret;exact ⟨by rw [HX.out];rfl,bSz hb0 hb⟩
theorem l21Ok_any:∀ (d:Nat) (t:PT) {B:Nat} {s:Value} {w:World},d<=4->KdS B w t s->Calls Tryz.prog 175 #[pl t.k t.n s, .int .i64 d] w (SokPost t d w):=by
 intro d
 induction d with
 | zero =>
  intro t B s w hd hs;refine (l21Ok_no hd hs (.inl (by omega))).mono ?_;rintro e w' ⟨rfl,hb⟩;exact ⟨by rw [pok_zero],hb⟩
 | succ d ih =>
  intro t B s w hd hs;cases hh:hereB t
  ·refine (l21Ok_no hd hs (.inr hh)).mono ?_;rintro e w' ⟨rfl,hb⟩;exact ⟨by rw [pok_here hh],hb⟩
  ·exact l21Ok_yes (by omega) hs hh fun i _ W s' hs'=>ih (t.kid i) (by omega) hs'
theorem specPlanOk_any {t:PT} {B:Nat} {s:Value} {w:World} (hs:KdS B w t s) :
  Calls Tryz.prog 102 #[pl t.k t.n s] w fun e w'=>e= .returned (.bool (pokB t 4))/\Below w.heap.size w w':=by
 have bP:Bk (w.alloc (.cells #[.int .i64 t.k, .int .i64 t.n,s] 25)) w.heap.size #[.int .i64 t.k, .int .i64 t.n,s] 25:=Bk.new _ _ rfl;have hb0:Below w.heap.size w (w.alloc (.cells #[.int .i64 t.k, .int .i64 t.n,s] 25)):=bAz (Below.refl _ _) _;obtain ⟨x0,x1,x2⟩:=bP.three';have HC:=(show Hid _ from l21Ok_any 4 t (by omega) (hs.keep hb0));obtain ⟨a,c,rfl⟩:=hs.sl;clear hs bP;go_enter Tryz.func102,Tryz.ntmps102;go_wp2_with fail;refine Calls.mono HC.out ?_;rintro e w1 ⟨rfl,hb1⟩;go_wp2_with fail;go_ret;exact ⟨rfl,bSz hb0 hb1⟩
end An
end Go.Proofs.YtbdpcngcbnoioaaGreatDoor
namespace Go.Proofs.YtbdpcngcbnoioaaGreatDoor
open Go.RowKit Go.Shelf
def anTo:An.PT->PT
 | .n0 k n=> .n0 k n
 | .n1 k n a=> .n1 k n (anTo a)
 | .n2 k n a b=> .n2 k n (anTo a) (anTo b)
 | .nm k n _=> .n0 k n
theorem anTo_k (t:An.PT):(anTo t).k=t.k:=by cases t<;>rfl
theorem anTo_n (t:An.PT):(anTo t).n=t.n:=by cases t<;>rfl
theorem an_kds {B:Nat} {w:World}:∀ {t:An.PT} {d:Nat} {s:Value},An.pokB t d=true->An.KdS B w t s->KdS B w (anTo t) s
 | t,0,_,h,_=>by rw [An.pok_zero] at h;cases h
 | .n0 _ _,_+1,_,_,hs=>hs
 | .n1 k n a,d+1,_,h,hs=>by
  have h2:(An.hereB (.n1 k n a)&&An.pokB a d)=true:=h;simp only [Bool.and_eq_true] at h2;obtain ⟨g,off,c,sx,e,hg,h3,h4,h5,h6⟩:=hs;exact ⟨g,off,c,sx,e,hg,by rw [anTo_k];exact h3,by rw [anTo_n];exact h4,h5,an_kds h2.2 h6⟩
 | .n2 k n a b,d+1,_,h,hs=>by
  have h2:(An.hereB (.n2 k n a b)&&An.pokB a d&&An.pokB b d)=true:=h;simp only [Bool.and_eq_true] at h2;obtain ⟨g,off,c,sx,sy,e,hg,h3,h4,h5,h6,h7,h8,h9,h10⟩:=hs;exact ⟨g,off,c,sx,sy,e,hg,by rw [anTo_k];exact h3,by rw [anTo_n];exact h4,h5,by rw [anTo_k];exact h6,by rw [anTo_n];exact h7,h8,an_kds h2.1.2 h9,an_kds h2.2 h10⟩
 | .nm _ _ _,_+1,_,h,_=>by cases h
inductive RT where
 | nil
 | mk (k n:Int) (m:Nat) (f:Nat->RT)
def RT.k:RT->Int| .nil=>0| .mk k _ _ _=>k
def RT.n:RT->Int| .nil=>0| .mk _ n _ _=>n
def RT.m:RT->Nat| .nil=>0| .mk _ _ m _=>m
def RT.f:RT->Nat->RT| .nil,_=> .nil| .mk _ _ _ f,i=>f i
def RT.fits:RT->Prop
 | .nil=>False
 | .mk k n m f=>(-9223372036854775808<=k/\k<=9223372036854775807)/\(-9223372036854775808<=n/\n<=9223372036854775807)/\∀ i,i<m->(f i).fits
def RT.nds:RT->Nat
 | .nil=>0
 | .mk _ _ m f=>m+((List.range m).map fun i=>(f i).nds).sum
def RT.cut:RT->An.PT
 | .nil=> .n0 0 0
 | .mk k n 0 _=> .n0 k n
 | .mk k n 1 f=> .n1 k n (f 0).cut
 | .mk k n 2 f=> .n2 k n (f 0).cut (f 1).cut
 | .mk k n (m+3) _=> .nm k n m
theorem RT.cut_k (t:RT):t.cut.k=t.k:=by
 rcases t with _|⟨k,n,m,f⟩
 ·rfl
 match m with
 | 0=>rfl
 | 1=>rfl
 | 2=>rfl
 | m+3=>rfl
theorem RT.cut_n (t:RT):t.cut.n=t.n:=by
 rcases t with _|⟨k,n,m,f⟩
 ·rfl
 match m with
 | 0=>rfl
 | 1=>rfl
 | 2=>rfl
 | m+3=>rfl
theorem RT.cut_sm:∀ {t:RT},t.fits->t.cut.sm
 | .nil,h=>h.elim
 | .mk _ _ 0 _,h=>h.2.1
 | .mk _ _ 1 f,h=>⟨h.2.1,RT.cut_sm (h.2.2 0 (by omega))⟩
 | .mk _ _ 2 f,h=>⟨h.2.1,RT.cut_sm (h.2.2 0 (by omega)),RT.cut_sm (h.2.2 1 (by omega))⟩
 | .mk _ _ (_+3) _,h=>h.2.1
def RdS (B:Nat) (w:World):RT->Value->Prop
 | .nil,_=>False
 | .mk _ _ m f,s=>∃ a c,s= .slice a m c/\m<=c/\c<=maxLen/\∀ i,i<m->∃ g off sx,a=some ⟨g,off,none⟩/\B<=g/\w.cell? ⟨g,off+i*3,none⟩=some (.int .i64 (f i).k)/\w.cell? ⟨g,off+i*3+1,none⟩=some (.int .i64 (f i).n)/\w.cell? ⟨g,off+i*3+2,none⟩=some sx/\RdS B w (f i) sx
theorem RdS.keep {B:Nat} {w w':World} (hb:Below w.heap.size w w'):∀ {t:RT} {s:Value},RdS B w t s->RdS B w' t s
 | .nil,_,h=>h.elim
 | .mk _ _ _ f,_,⟨a,c,e,h1,h2,h⟩=>⟨a,c,e,h1,h2,fun i hi=>by
  obtain ⟨g,off,sx,e1,hg,h3,h4,h5,h6⟩:=h i hi;exact ⟨g,off,sx,e1,hg,cB hb h3,cB hb h4,cB hb h5,RdS.keep hb h6⟩⟩
theorem RdS.less {B B':Nat} {w:World} (hB:B'<=B):∀ {t:RT} {s:Value},RdS B w t s->RdS B' w t s
 | .nil,_,h=>h.elim
 | .mk _ _ _ f,_,⟨a,c,e,h1,h2,h⟩=>⟨a,c,e,h1,h2,fun i hi=>by
  obtain ⟨g,off,sx,e1,hg,h3,h4,h5,h6⟩:=h i hi;exact ⟨g,off,sx,e1,Nat.le_trans hB hg,h3,h4,h5,RdS.less hB h6⟩⟩
theorem RdS.sl {B:Nat} {w:World} {t:RT} {s:Value} (h:RdS B w t s):∃ a c,s= .slice a t.m c/\t.m<=c/\c<=maxLen:=by
 rcases t with _|⟨k,n,m,f⟩
 ·exact h.elim
 obtain ⟨a,c,e,h1,h2,_⟩:=h;exact ⟨a,c,e,h1,h2⟩
theorem RdS.at {B:Nat} {w:World} {t:RT} {a:Option Addr} {n c:Nat} (h:RdS B w t (.slice a n c)) {i:Nat} (hi:i<t.m) :
  ∃ g off b d,a=some ⟨g,off,none⟩/\g<w.heap.size/\w.cell? ⟨g,off+i*3,none⟩=some (.int .i64 (t.f i).k)/\w.cell? ⟨g,off+i*3+1,none⟩=some (.int .i64 (t.f i).n)/\w.cell? ⟨g,off+i*3+2,none⟩=some (.slice b (t.f i).m d)/\RdS B w (t.f i) (.slice b (t.f i).m d):=by
 rcases t with _|⟨k,n,m,f⟩
 ·exact h.elim
 obtain ⟨a',c',e,_,_,h2⟩:=h;cases e;obtain ⟨g,off,sx,e1,_,h3,h4,h5,h6⟩:=h2 i hi;obtain ⟨b,d,e2,_⟩:=h6.sl;subst e2;exact ⟨g,off,b,d,e1,lC h3,h3,h4,h5,h6⟩
theorem RdS.cut {B:Nat} {w:World}:∀ {t:RT} {s:Value},RdS B w t s->An.KdS B w t.cut s
 | .nil,_,h=>h.elim
 | .mk _ _ 0 _,_,⟨a,c,e,_⟩=>⟨a,c,e⟩
 | .mk _ _ 1 f,_,⟨a,c,e,_,_,h⟩=>by
  obtain ⟨g,off,sx,e1,hg,h3,h4,h5,h6⟩:=h 0 (by omega);subst e1;exact ⟨g,off,c,sx,e,hg,by rw [RT.cut_k];simpa using h3,by rw [RT.cut_n];simpa using h4,by simpa using h5,RdS.cut h6⟩
 | .mk _ _ 2 f,_,⟨a,c,e,_,_,h⟩=>by
  obtain ⟨g,off,sx,e1,hg,h3,h4,h5,h6⟩:=h 0 (by omega);obtain ⟨g2,off2,sy,e2,hg2,h7,h8,h9,h10⟩:=h 1 (by omega);subst e1;cases e2;exact ⟨g,off,c,sx,sy,e,hg,by rw [RT.cut_k];simpa using h3,by rw [RT.cut_n];simpa using h4,by simpa using h5,by rw [RT.cut_k];simpa using h7,by rw [RT.cut_n];simpa using h8,by simpa using h9,RdS.cut h6,RdS.cut h10⟩
 | .mk _ _ (m+3) _,_,⟨a,c,e,_⟩=>⟨a,c,e⟩
end Go.Proofs.YtbdpcngcbnoioaaGreatDoor
