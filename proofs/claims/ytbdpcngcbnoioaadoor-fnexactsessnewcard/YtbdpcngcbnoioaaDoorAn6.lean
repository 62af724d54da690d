import Derived.Test.YtbdpcngcbnoioaaDoorAn5
set_option maxRecDepth 100000
set_option maxHeartbeats 8000000
namespace Go.Proofs.YtbdpcngcbnoioaaDoor
open Go.RowKit Go.Shelf
namespace An
theorem okPlan_any (ea:Addr):∀ (d:Nat) (t:PT) {B:Nat} {s:Value} {w:World} (deep:Int),deep+d=5->d<=4->t.sm->Pow w->KdS B w t s->w.cell? ⟨0,0,none⟩=some (erV ea)->Calls Tryd.prog 32 #[pl t.k t.n s, .int .i64 deep] w (OkPost ea t d w):=by
 intro d
 induction d with
 | zero =>
  intro t B s w deep h1 _ hsm hpw hs hg;have hp:=pok_zero t
  by_cases hk:inB t.k 1 6=true
  ·obtain ⟨F,H⟩:=kind_of hk;refine (okPlan_bad ea H (PT.sm_n hsm) hpw hs hg (.inl (by omega))).mono ?_;rintro e w' ⟨rfl,hb⟩;exact ⟨.inr ⟨hp,rfl⟩,hb⟩
  ·have hk2:t.k<1\/6<t.k:=by simp [inB] at hk;omega
   obtain ⟨a,c,e⟩:=hs.sl;refine (okPlan_none ea ⟨a,_,c,e⟩ hk2 hg).mono ?_;rintro e w' ⟨rfl,hb⟩;exact ⟨.inr ⟨hp,rfl⟩,hb⟩
 | succ d ih =>
  intro t B s w deep h1 h4 hsm hpw hs hg
  by_cases hk:inB t.k 1 6=true
  ·obtain ⟨F,H⟩:=kind_of hk;cases hh:hereB t
   ·refine (okPlan_bad ea H (PT.sm_n hsm) hpw hs hg ?_).mono ?_
    ·have:¬ ((t.len:Int)=kidN t.k/\numLo t.k<=t.n/\t.n<=numHi t.k):=by
      intro hx;have:hereB t=true:=by simp [hereB,hk,hx.1];simp [inB,hx.2.1,hx.2.2]
      rw [hh] at this;cases this
     omega
    ·rintro e w' ⟨rfl,hb⟩;exact ⟨.inr ⟨pok_here hh,rfl⟩,hb⟩
   ·exact okPlan_good ea H (PT.sm_n hsm) hpw hs hg hh (by omega) (by omega) fun i hi W s' hs' hg' hp'=>ih (t.kid i) (deep+1) (by omega) (by omega) (PT.sm_kid hsm hi) hp' hs' hg'
  ·have hk2:t.k<1\/6<t.k:=by simp [inB] at hk;omega
   obtain ⟨a,c,e⟩:=hs.sl;refine (okPlan_none ea ⟨a,_,c,e⟩ hk2 hg).mono ?_;rintro e w' ⟨rfl,hb⟩;exact ⟨.inr ⟨pok_here (by simp [hereB,hk]),rfl⟩,hb⟩
theorem implPlanOk_any (ea:Addr) {t:PT} {B:Nat} {s:Value} {w:World} (hsm:t.sm) (hpw:Pow w) (hs:KdS B w t s) (hg:w.cell? ⟨0,0,none⟩=some (erV ea)) :
  Calls Tryd.prog 17 #[pl t.k t.n s] w fun e w'=>e= .returned (.bool (pokB t 4))/\Below w.heap.size w w':=by
 have bP:Bk (w.alloc (.cells #[.int .i64 t.k, .int .i64 t.n,s] 28)) w.heap.size #[.int .i64 t.k, .int .i64 t.n,s] 28:=Bk.new _ _ rfl;have hb0:Below w.heap.size w (w.alloc (.cells #[.int .i64 t.k, .int .i64 t.n,s] 28)):=bAz (Below.refl _ _) _;obtain ⟨x0,x1,x2⟩:=bP.three';have HC:=(show Hid _ from okPlan_any ea 4 t 1 (by omega) (by omega) hsm (pow_keep hpw hb0 rfl) (hs.keep hb0) (cB hb0 hg));obtain ⟨a,c,rfl⟩:=hs.sl;clear hs hsm hpw bP;go_enter Tryd.func17,Tryd.ntmps17;go_wp2_with fail;refine Calls.mono HC.out ?_;rintro e w1 ⟨hor,hb1⟩;have hbw:=bSz hb0 hb1;clear HC x0 x1 x2
 rcases hor with ⟨hp,a3,n3,c3,rfl,_⟩|⟨hp,rfl⟩
 ·have hb2:=bAz hbw (.cells #[kiV t, .slice a3 n3 c3] 61);have hg2:=cB hb2 hg;go_wp2_with fail;refine (is_nil _ _).mono ?_;rintro e w2 ⟨rfl,rfl⟩;go_wp2_with fail;go_ret;exact ⟨by rw [hp];rfl,hb2⟩
 ·have hb2:=bAz hbw (.cells #[.nilIface, .slice none 0 0] 61);have hg2:=cB hb2 hg;go_wp2_with fail;refine (is_same _ _).mono ?_;rintro e w2 ⟨rfl,rfl⟩;go_wp2_with fail;go_ret;exact ⟨by rw [hp];rfl,hb2⟩
def SokPost (t:PT) (d:Nat) (w:World) (e:Ending) (w':World):Prop:=e= .returned (.bool (pokB t d))/\Below w.heap.size w w'
theorem l21Ok_no {t:PT} {B d:Nat} {s:Value} {w:World} (hd:d<=4) (hs:KdS B w t s) (hh:d<1\/hereB t=false):Calls Tryd.prog 31 #[pl t.k t.n s, .int .i64 d] w fun e w'=>e= .returned (.bool false)/\Below w.heap.size w w':=by
 have bP:Bk (w.alloc (.cells #[.int .i64 t.k, .int .i64 t.n,s] 28)) w.heap.size #[.int .i64 t.k, .int .i64 t.n,s] 28:=Bk.new _ _ rfl;have hb0:Below w.heap.size w (w.alloc (.cells #[.int .i64 t.k, .int .i64 t.n,s] 28)):=bAz (Below.refl _ _) _;obtain ⟨x0,x1,x2⟩:=bP.three';obtain ⟨a,c,rfl⟩:=hs.sl;have hc:((d:Int)<1)\/(¬ (d:Int)<1/\¬ (t.len:Int)=kidN t.k)\/(¬ (d:Int)<1/\(t.len:Int)=kidN t.k/\inB t.n (numLo t.k) (numHi t.k)=false):=by
  rcases hh with h|h
  ·exact .inl (by omega)
  ·rcases Nat.lt_or_ge d 1 with h1|h1
   ·exact .inl (by omega)
   ·by_cases h2:(t.len:Int)=kidN t.k
    ·refine .inr (.inr ⟨by omega,h2,?_⟩)
     by_cases hk:inB t.k 1 6=true
     ·simp only [hereB,hk,h2,decide_true,Bool.true_and,Bool.and_self] at h;exact h
     ·exfalso
      have:kidN t.k = -1:=by
       simp [inB] at hk;have n1:¬ t.k=1:=by omega
       have n2:¬ t.k=2:=by omega
       have n3:¬ t.k=3:=by omega
       have n4:¬ t.k=4:=by omega
       have n5:¬ t.k=5:=by omega
       have n6:¬ t.k=6:=by omega
       simp [kidN,n1,n2,n3,n4,n5,n6]
      omega
    ·exact .inr (.inl ⟨by omega,h2⟩)
 clear hs hh bP;go_enter Tryd.func31,Tryd.ntmps31;go_wp2_with fail;refine (l21Kids_any t.k _).mono ?_;rintro e w1 ⟨rfl,rfl⟩
 rcases hc with h1|⟨h1,h2⟩|⟨h1,h2,h3⟩
 ·go_wp2_with fail;go_ret;exact ⟨rfl,hb0⟩
 ·go_wp2_with fail;go_ret;exact ⟨rfl,hb0⟩
 ·go_wp2_with fail;refine (l6In_any _ _ _ _).mono ?_;rintro e w1 ⟨rfl,rfl⟩;rw [h3];go_wp2_with fail;go_ret;exact ⟨rfl,hb0⟩
theorem l21Ok_yes {t:PT} {B d:Nat} {s:Value} {w:World} (hd:d<=3) (hs:KdS B w t s) (hh:hereB t=true)
  (hrec:∀ i,i<t.len->∀ (W:World) (s':Value),KdS B W (t.kid i) s'->Calls Tryd.prog 31 #[pl (t.kid i).k (t.kid i).n s', .int .i64 d] W (SokPost (t.kid i) d W)):Calls Tryd.prog 31 #[pl t.k t.n s, .int .i64 ((d+1:Nat):Int)] w (SokPost t (d+1) w):=by
 have bP:Bk (w.alloc (.cells #[.int .i64 t.k, .int .i64 t.n,s] 28)) w.heap.size #[.int .i64 t.k, .int .i64 t.n,s] 28:=Bk.new _ _ rfl;have hb0:Below w.heap.size w (w.alloc (.cells #[.int .i64 t.k, .int .i64 t.n,s] 28)):=bAz (Below.refl _ _) _;obtain ⟨x0,x1,x2⟩:=bP.three';have HSL:=(show Hid _ from hs.keep hb0);obtain ⟨a,c,rfl⟩:=hs.sl;have HR:=(show Hid _ from hrec);have HH:=(show Hid _ from hh);have hh2:((t.len:Int)=kidN t.k)/\inB t.n (numLo t.k) (numHi t.k)=true:=by
  simp only [hereB,Bool.and_eq_true,decide_eq_true_eq] at hh;exact ⟨hh.1.2,hh.2⟩
 obtain ⟨h2,h3⟩:=hh2;have htl:=here_len hh;have HLE:=(show Hid (t.len<=2) from htl);have hd2:((d+1:Nat):Int)=(d:Int)+1:=by omega
 have h1:¬ ((d:Int)+1<1):=by omega
 have hd3:((d:Int)+1)-1=(d:Int):=by omega
 rw [hd2];clear hs hrec hh hd2;go_enter Tryd.func31,Tryd.ntmps31;go_wp2_with fail;refine (l21Kids_any t.k _).mono ?_;rintro e w1 ⟨rfl,rfl⟩;go_wp2_with fail;refine (l6In_any _ _ _ _).mono ?_;rintro e w1 ⟨rfl,rfl⟩;rw [h3];go_wp2_with fail;generalize (w.alloc (.cells #[.int .i64 t.k, .int .i64 t.n, .slice a t.len c] 28))=W0 at *;clear x0 x1 x2
 go_loopw [8] (fun i wr=>∃ k:Nat,i= .int .i64 k/\k<=t.len/\(∀ j,j<k->pokB (t.kid j) d=true)/\Below W0.heap.size W0 wr) (fun i _=>t.len-(intOf i).toNat)
 case atStart=>exact ⟨0,rfl,Nat.zero_le _,fun j hj=>absurd hj (by omega),Below.refl _ _⟩
 case round =>
  obtain ⟨k,rfl,hkl,hpok,hb⟩:=hrel;have HPO:=(show Hid _ from hpok);clear hpok;have bP1:=bP.keep hb;obtain ⟨x0,x1,x2⟩:=bP1.three'
  by_cases hlt2:k<t.len
  ·have ik:((k:Int)<(t.len:Int)):=by omega
   obtain ⟨g,off,sx,rfl,hgl,c0,c1,c2,hkid,b2,m2,d2,rfl⟩:=(HSL.out.keep hb).at HLE.out hlt2;have HC:=(show Hid _ from HR.out k hlt2 wr _ hkid);clear hkid;go_wp2_with fail;refine Calls.mono HC.out ?_;rintro e w7 ⟨rfl,hb7⟩;have hb8:=bSz hb hb7;cases hp:pokB (t.kid k) d
   ·have HX:Hid (pokB t (d+1)=false):=pok_kid hlt2 hp;go_wp2_with fail;go_ret;exact ⟨by rw [HX.out];rfl,bSz hb0 hb8⟩
   ·have HN:Hid (∀ j,j<k+1->pokB (t.kid j) d=true):=fun j hj=>by
     rcases Nat.lt_or_ge j k with h|h
     ·exact HPO.out j h
     ·obtain rfl:j=k:=by omega
      exact hp
    go_wp2_with fail;go_roundw
    case rel=>exact ⟨k+1,by go_num,by omega,HN.out,hb8⟩
    case measure=>simp [intOf];omega
  ·obtain rfl:k=t.len:=by omega
   have ik:¬ ((t.len:Int)<(t.len:Int)):=by omega
   have HX:Hid (pokB t (d+1)=true):=pok_yes HH.out HPO.out;go_wp2_with fail;go_ret;exact ⟨by rw [HX.out];rfl,bSz hb0 hb⟩
theorem l21Ok_any:∀ (d:Nat) (t:PT) {B:Nat} {s:Value} {w:World},d<=4->KdS B w t s->Calls Tryd.prog 31 #[pl t.k t.n s, .int .i64 d] w (SokPost t d w):=by
 intro d
 induction d with
 | zero =>
  intro t B s w hd hs;refine (l21Ok_no hd hs (.inl (by omega))).mono ?_;rintro e w' ⟨rfl,hb⟩;exact ⟨by rw [pok_zero],hb⟩
 | succ d ih =>
  intro t B s w hd hs;cases hh:hereB t
  ·refine (l21Ok_no hd hs (.inr hh)).mono ?_;rintro e w' ⟨rfl,hb⟩;exact ⟨by rw [pok_here hh],hb⟩
  ·exact l21Ok_yes (by omega) hs hh fun i _ W s' hs'=>ih (t.kid i) (by omega) hs'
theorem specPlanOk_any {t:PT} {B:Nat} {s:Value} {w:World} (hs:KdS B w t s) :
  Calls Tryd.prog 14 #[pl t.k t.n s] w fun e w'=>e= .returned (.bool (pokB t 4))/\Below w.heap.size w w':=by
 have bP:Bk (w.alloc (.cells #[.int .i64 t.k, .int .i64 t.n,s] 28)) w.heap.size #[.int .i64 t.k, .int .i64 t.n,s] 28:=Bk.new _ _ rfl;have hb0:Below w.heap.size w (w.alloc (.cells #[.int .i64 t.k, .int .i64 t.n,s] 28)):=bAz (Below.refl _ _) _;obtain ⟨x0,x1,x2⟩:=bP.three';have HC:=(show Hid _ from l21Ok_any 4 t (by omega) (hs.keep hb0));obtain ⟨a,c,rfl⟩:=hs.sl;clear hs bP;go_enter Tryd.func14,Tryd.ntmps14;go_wp2_with fail;refine Calls.mono HC.out ?_;rintro e w1 ⟨rfl,hb1⟩;go_wp2_with fail;go_ret;exact ⟨rfl,bSz hb0 hb1⟩
end An
end Go.Proofs.YtbdpcngcbnoioaaDoor
