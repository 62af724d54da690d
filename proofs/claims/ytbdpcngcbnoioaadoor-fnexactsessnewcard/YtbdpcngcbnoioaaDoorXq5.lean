import Derived.Test.YtbdpcngcbnoioaaDoorGmr
import Derived.Test.YtbdpcngcbnoioaaDoorAnp
import Derived.Test.YtbdpcngcbnoioaaDoorGqc
import Derived.Test.YtbdpcngcbnoioaaDoorAn9
import Derived.Test.YtbdpcngcbnoioaaDoorAnh
import Derived.Test.YtbdpcngcbnoioaaDoorXq2
import Derived.Test.YtbdpcngcbnoioaaDoorXq3
import Derived.Test.YtbdpcngcbnoioaaDoorXq4
import Derived.Test.YtbdpcngcbnoioaaDoorGqd
namespace Go.Proofs.YtbdpcngcbnoioaaDoor
open Go.RowKit Go.Shelf
end Go.Proofs.YtbdpcngcbnoioaaDoor
namespace Go.Proofs.YtbdpcngcbnoioaaDoor
open Go.RowKit Go.Shelf
end Go.Proofs.YtbdpcngcbnoioaaDoor
set_option maxRecDepth 100000
set_option maxHeartbeats 8000000
namespace Go.Proofs.YtbdpcngcbnoioaaDoor
open Go.RowKit Go.Shelf
theorem LyR.ly {w:World} {v:Value} {L:List (List Rw)} (h:LyR w v L):Ly w v L:=by
 obtain ⟨vs,h1,h2,h3⟩:=h;exact ⟨vs,h1,h2,h3⟩
theorem eqSess_gen {k n:Int} {a0 b0:Option Addr} {m c0 d0:Nat} {si si' sf sf' sd sd':Value} {K:List (List Rw)} {f:LI} {d:List Rw} {w:World}
  (hp:∀ V:World,Below w.heap.size w V->Calls Tryd.prog 9 #[pl k n (.slice a0 m c0),pl k n (.slice b0 m d0)] V fun e w'=>e= .returned (.bool true)/\Below V.heap.size V w')
  (hi:Ly w si K) (hi':Ly w si' K) (hf:Ts w sf f) (hf':Ts w sf' f) (hd:Rs w sd d) (hd':Rs w sd' d) :
  Calls Tryd.prog 8 #[sv k n (.slice a0 m c0) si sf sd,sv k n (.slice b0 m d0) si' sf' sd'] w fun e w'=>e= .returned (.bool true)/\Below w.heap.size w w':=by
 have HP:=(show Hid _ from hp);have HI:=(show Hid (Ly w si K/\Ly w si' K) from ⟨hi,hi'⟩);have HF:=(show Hid (Ts w sf f/\Ts w sf' f) from ⟨hf,hf'⟩);have HD:=(show Hid (Rs w sd d/\Rs w sd' d) from ⟨hd,hd'⟩);obtain ⟨a1,c1,rfl,-⟩:=Ly.open hi;obtain ⟨b1,d1,rfl,-⟩:=Ly.open hi';obtain ⟨a2,c2,rfl,-⟩:=hf;obtain ⟨b2,d2,rfl,-⟩:=hf';obtain ⟨a3,c3,rfl,-⟩:=Rs.open hd;obtain ⟨b3,d3,rfl,-⟩:=Rs.open hd';clear hp hi hi' hd hd';have bi:Bk ((w.alloc (.cells (sc k n (.slice a0 m c0) (.slice a1 K.length c1) (.slice a2 f.length c2) (.slice a3 d.length c3)) 33)).alloc (.cells (sc k n (.slice b0 m d0) (.slice b1 K.length d1) (.slice b2 f.length d2) (.slice b3 d.length d3)) 33)) w.heap.size (sc k n (.slice a0 m c0) (.slice a1 K.length c1) (.slice a2 f.length c2) (.slice a3 d.length c3)) 33:=(Bk.new _ _ rfl).alloc _;have bj:Bk ((w.alloc (.cells (sc k n (.slice a0 m c0) (.slice a1 K.length c1) (.slice a2 f.length c2) (.slice a3 d.length c3)) 33)).alloc (.cells (sc k n (.slice b0 m d0) (.slice b1 K.length d1) (.slice b2 f.length d2) (.slice b3 d.length d3)) 33)) (w.heap.size+1) (sc k n (.slice b0 m d0) (.slice b1 K.length d1) (.slice b2 f.length d2) (.slice b3 d.length d3)) 33:=Bk.new (w:=w.alloc _) _ _ (by simp);have hb0:Below w.heap.size w ((w.alloc (.cells (sc k n (.slice a0 m c0) (.slice a1 K.length c1) (.slice a2 f.length c2) (.slice a3 d.length c3)) 33)).alloc (.cells (sc k n (.slice b0 m d0) (.slice b1 K.length d1) (.slice b2 f.length d2) (.slice b3 d.length d3)) 33)):=bAz (bAz (Below.refl _ _) _) _;have HX:Hid (∀ V:World,Below ((w.alloc (.cells (sc k n (.slice a0 m c0) (.slice a1 K.length c1) (.slice a2 f.length c2) (.slice a3 d.length c3)) 33)).alloc (.cells (sc k n (.slice b0 m d0) (.slice b1 K.length d1) (.slice b2 f.length d2) (.slice b3 d.length d3)) 33)).heap.size ((w.alloc (.cells (sc k n (.slice a0 m c0) (.slice a1 K.length c1) (.slice a2 f.length c2) (.slice a3 d.length c3)) 33)).alloc (.cells (sc k n (.slice b0 m d0) (.slice b1 K.length d1) (.slice b2 f.length d2) (.slice b3 d.length d3)) 33)) V->Bk V w.heap.size (sc k n (.slice a0 m c0) (.slice a1 K.length c1) (.slice a2 f.length c2) (.slice a3 d.length c3)) 33/\Bk V (w.heap.size+1) (sc k n (.slice b0 m d0) (.slice b1 K.length d1) (.slice b2 f.length d2) (.slice b3 d.length d3)) 33):=fun V hV=>⟨bi.keep hV,bj.keep hV⟩;obtain ⟨x0,x1,x2,x3,x4,x5⟩:=bi.six;obtain ⟨y0,y1,y2,y3,y4,y5⟩:=bj.six;have H1:=(show Hid _ from HP.out _ hb0);clear bi bj;go_enter Tryd.func8,Tryd.ntmps8;go_wp2_with fail;generalize ((w.alloc (.cells (sc k n (.slice a0 m c0) (.slice a1 K.length c1) (.slice a2 f.length c2) (.slice a3 d.length c3)) 33)).alloc (.cells (sc k n (.slice b0 m d0) (.slice b1 K.length d1) (.slice b2 f.length d2) (.slice b3 d.length d3)) 33))=W0 at *;refine Calls.mono H1.out ?_;rintro e w1 ⟨rfl,hb1⟩;have hbw1:=bSz hb0 hb1;have H2:=(show Hid _ from eqRowSS_same _ _ K _ (HI.out.1.keep hbw1) (HI.out.2.keep hbw1));obtain ⟨b1',b2'⟩:=HX.out _ hb1;clear x0 x1 x2 x3 x4 x5 y0 y1 y2 y3 y4 y5 H1 HP;obtain ⟨x0,x1,x2,x3,x4,x5⟩:=b1'.six;obtain ⟨y0,y1,y2,y3,y4,y5⟩:=b2'.six;clear b1' b2';go_wp2_with fail;refine Calls.mono H2.out ?_;rintro e w2 ⟨rfl,hb2⟩;have hbw2:=bSz hbw1 hb2;have hc2:=bSz hb1 hb2;have H3:=(show Hid _ from eqTimeS_same _ _ f _ (HF.out.1.keep hbw2) (HF.out.2.keep hbw2));obtain ⟨b1',b2'⟩:=HX.out _ hc2;clear x0 x1 x2 x3 x4 x5 y0 y1 y2 y3 y4 y5 H2 HI hb1 hb2 hbw1;obtain ⟨x0,x1,x2,x3,x4,x5⟩:=b1'.six;obtain ⟨y0,y1,y2,y3,y4,y5⟩:=b2'.six;clear b1' b2';go_wp2_with fail;refine Calls.mono H3.out ?_;rintro e w3 ⟨rfl,hb3⟩;have hbw3:=bSz hbw2 hb3;have hc3:=bSz hc2 hb3;have H4:=(show Hid _ from eqRowS_same _ _ d _ (HD.out.1.keep hbw3) (HD.out.2.keep hbw3));obtain ⟨b1',b2'⟩:=HX.out _ hc3;clear x0 x1 x2 x3 x4 x5 y0 y1 y2 y3 y4 y5 H3 HF hb3 hbw2 hc2;obtain ⟨x0,x1,x2,x3,x4,x5⟩:=b1'.six;obtain ⟨y0,y1,y2,y3,y4,y5⟩:=b2'.six;clear b1' b2';go_wp2_with fail;refine Calls.mono H4.out ?_;rintro e w4 ⟨rfl,hb4⟩;have hbw4:=bSz hbw3 hb4;clear x0 x1 x2 x3 x4 x5 y0 y1 y2 y3 y4 y5 H4 HD;go_wp2_with fail;go_ret;exact ⟨rfl,hbw4⟩
end Go.Proofs.YtbdpcngcbnoioaaDoor
namespace Go.Proofs.YtbdpcngcbnoioaaDoor
open Go.RowKit Go.Shelf
def NewEq (t:RT) (pt:PT) (n:Nat) (l:LI) (b:Bool):Prop :=
 (An.pokB t.cut 4=true/\pt=anTo t.cut/\n=2/\l=[(0,0)]/\b=true)\/(An.pokB t.cut 4=false/\pt= .n0 0 0/\n=0/\l=[]/\b=false)
theorem newEq_is (t:RT):∃ pt n l b,NewEq t pt n l b:=by
 cases h:An.pokB t.cut 4
 ·exact ⟨_,_,_,_, .inr ⟨h,rfl,rfl,rfl,rfl⟩⟩
 ·exact ⟨_,_,_,_, .inl ⟨h,rfl,rfl,rfl,rfl⟩⟩
theorem pok_cnt:∀ {d:Nat} {t:PT},pokB t d=true->d<=4->cntT t<=2*(2^d-1)
 | 0,t,h,_=>by rw [pok_zero] at h;cases h
 | d+1, .n0 _ _,_,_=>Nat.zero_le _
 | d+1, .n1 k n x,h,hd=>by
  obtain ⟨_,hk⟩:=pok_parts h;have h1:=pok_cnt (hk 0 (by simp [PT.len])) (by omega);have h2:(2:Nat)^(d+1)=2*2^d:=by rw [Nat.pow_succ];omega
  have h3:1<=(2:Nat)^d:=Nat.one_le_two_pow;have h4:(PT.n1 k n x).kid 0=x:=rfl;rw [h4] at h1
  show 1+cntT x<=_
  omega
 | d+1, .n2 k n x y,h,hd=>by
  obtain ⟨_,hk⟩:=pok_parts h;have h1:=pok_cnt (hk 0 (by simp [PT.len])) (by omega);have h2:=pok_cnt (hk 1 (by simp [PT.len])) (by omega);have h3:(2:Nat)^(d+1)=2*2^d:=by rw [Nat.pow_succ];omega
  have h4:1<=(2:Nat)^d:=Nat.one_le_two_pow;have h5:(PT.n2 k n x y).kid 0=x:=rfl;have h6:(PT.n2 k n x y).kid 1=y:=rfl;rw [h5] at h1;rw [h6] at h2
  show 2+cntT x+cntT y<=_
  omega
theorem here_smQ {t:An.PT} (h:An.hereB t=true):0<=t.n/\t.n<=99:=by
 simp only [An.hereB,Bool.and_eq_true] at h;obtain ⟨⟨h1,_⟩,h2⟩:=h;have h3:(1<=t.k/\t.k<=6):=by simpa [inB] using h1
 have h4:numLo t.k<=t.n/\t.n<=numHi t.k:=by simpa [inB] using h2
 have:0<=numLo t.k/\numHi t.k<=99:=by
  obtain h|h|h|h|h|h:t.k=1\/t.k=2\/t.k=3\/t.k=4\/t.k=5\/t.k=6:=by omega
  all_goals rw [h];decide
 omega
theorem an_smQ:∀ {t:An.PT} {d:Nat},An.pokB t d=true->(anTo t).sm
 | t,0,h=>by rw [An.pok_zero] at h;cases h
 | .n0 _ _,_+1,h=>here_smQ h
 | .n1 k n a,d+1,h=>by
  have h2:(An.hereB (.n1 k n a)&&An.pokB a d)=true:=h;simp only [Bool.and_eq_true] at h2;exact ⟨here_smQ h2.1,an_smQ h2.2⟩
 | .n2 k n a b,d+1,h=>by
  have h2:(An.hereB (.n2 k n a b)&&An.pokB a d&&An.pokB b d)=true:=h;simp only [Bool.and_eq_true] at h2;exact ⟨here_smQ h2.1.1,an_smQ h2.1.2,an_smQ h2.2⟩
 | .nm _ _ _,_+1,h=>by cases h
theorem implSessNew_x (ea:Addr) {t:RT} {pt:PT} {n:Nat} {l:LI} {b:Bool} {B:Nat} {s:Value} {w:World} (he:NewEq t pt n l b) (hfit:t.fits) (hpw:Pow w) (hs:RdS B w t s) (hg:w.cell? ⟨0,0,none⟩=some (erV ea)) :
  Calls Tryd.prog 7 #[pl t.k t.n s] w fun e w'=>∃ sp si sf,e= .returned (.tuple #[sv pt.k pt.n sp si sf nilV, .bool b])/\GM w' w.heap.size pt sp si sf n l/\Below w.heap.size w w':=by
 rcases he with ⟨hp,rfl,rfl,rfl,rfl⟩|⟨hp,rfl,rfl,rfl,rfl⟩
 ·have h:=implSessNewQ_yes ea (t:=anTo t.cut) (an_ok hp) (an_smQ hp) (an_kds hp hs.cut) hg;have ek:(anTo t.cut).k=t.k:=by rw [anTo_k,RT.cut_k]
  have en:(anTo t.cut).n=t.n:=by rw [anTo_n,RT.cut_n]
  have e0:#[pl (anTo t.cut).k (anTo t.cut).n s]=#[pl t.k t.n s]:=by rw [ek,en]
  rw [e0] at h;refine h.mono fun e w' ⟨ak,ck,q,q',he,hm,hb⟩=>⟨_,_,_,he,⟨hm.kd.wk fun g hg=>by omega, .inr ⟨rfl,q,by have:=hm.hq;omega,rfl,hm.bq⟩,?_,?_,by simp⟩,hb⟩
  ·exact own_of_fill (F:=[(0,0)]) hm.bq' (fun i hi=>by obtain rfl:i=0:=(by simpa using hi);exact ⟨rfl,rfl⟩) rfl (by simp) (by unfold maxLen;omega) (by have:=hm.hq';omega)
  ·have:=pok_cnt (an_ok hp) (Nat.le_refl _)
   simpa using this
 ·refine (implSessNew_rnot ea hp hfit hpw hs hg).mono fun e w' ⟨he,hb⟩=>⟨nilV,nilV,nilV,he,⟨⟨none,0,rfl⟩, .inl ⟨rfl,rfl⟩,oN _ _ _ _ _,by simp [cntT],by simp⟩,hb⟩
theorem specSessNew_x {t:RT} {pt:PT} {n:Nat} {l:LI} {b:Bool} {B:Nat} {s:Value} {w:World} (he:NewEq t pt n l b) (hs:RdS B w t s) :
  Calls Tryd.prog 5 #[pl t.k t.n s] w fun e w'=>∃ sp si sf,e= .returned (.tuple #[sv pt.k pt.n sp si sf nilV, .bool b])/\SesN w' (fun z=>w.heap.size<=z) sp si sf nilV ⟨pt,List.replicate n [],l,[]⟩/\Below w.heap.size w w':=by
 rcases he with ⟨hp,rfl,rfl,rfl,rfl⟩|⟨hp,rfl,rfl,rfl,rfl⟩
 ·have h:=specSessNew_yes (t:=anTo t.cut) (an_ok hp) (an_kds hp hs.cut);have ek:(anTo t.cut).k=t.k:=by rw [anTo_k,RT.cut_k]
  have en:(anTo t.cut).n=t.n:=by rw [anTo_n,RT.cut_n]
  have e0:#[pl (anTo t.cut).k (anTo t.cut).n s]=#[pl t.k t.n s]:=by rw [ek,en]
  rw [e0] at h;exact h.mono fun e w' ⟨sp,si,sf,he,hm,hb⟩=>⟨_,_,_,he,hm.wk fun z hz _=>by omega,hb⟩
 ·exact (specSessNew_rnot hp hs).mono fun e w' ⟨he,hb⟩=>⟨nilV,nilV,nilV,he,fun V _=>zero_ses V,hb⟩
theorem ly_two {w:World} {q:Nat} (h:Bk w q #[nilV,nilV] 31):Ly w (.slice (some ⟨q,0,none⟩) 2 2) [[],[]]:=by
 refine ⟨[nilV,nilV],⟨_,2,rfl,Nat.le_refl _,by unfold maxLen;omega,by simp,fun i u hi=>⟨q,0,rfl,h.lt,fun j hj=>?_⟩⟩,rfl,fun i u l hu hl=>?_⟩
 ·obtain rfl:j=0:=by omega
  obtain ⟨x0,x1,_,_⟩:=h.two
  match i,hi with
  | 0,hi =>
   obtain rfl:nilV=u:=by simpa using hi
   simpa using x0
  | 1,hi =>
   obtain rfl:nilV=u:=by simpa using hi
   simpa using x1
 ·match i,hu,hl with
  | 0,hu,hl =>
   obtain rfl:nilV=u:=by simpa using hu
   obtain rfl:[]=l:=by simpa using hl
   exact OwnR.rs (oN rowC 5 70 _ 0) (by simp)
  | 1,hu,hl =>
   obtain rfl:nilV=u:=by simpa using hu
   obtain rfl:[]=l:=by simpa using hl
   exact OwnR.rs (oN rowC 5 70 _ 0) (by simp)
theorem GM.ly {w:World} {B:Nat} {t:PT} {sp si sf:Value} {n:Nat} {l:LI} (h:GM w B t sp si sf n l):Ly w si (List.replicate n []):=by
 rcases h.ls with ⟨rfl,rfl⟩|⟨rfl,q,_,rfl,hb⟩
 ·exact Ly.nil w
 ·exact ly_two hb
end Go.Proofs.YtbdpcngcbnoioaaDoor
