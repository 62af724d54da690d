import Derived.Test.YtbdpcngcbnoioaaGreatDoorAn7
import Derived.Test.YtbdpcngcbnoioaaGreatDoorGmr
import Derived.Test.YtbdpcngcbnoioaaGreatDoorGqc
namespace Go.Proofs.YtbdpcngcbnoioaaGreatDoor
open Go.RowKit Go.Shelf
end Go.Proofs.YtbdpcngcbnoioaaGreatDoor
set_option maxRecDepth 100000
set_option maxHeartbeats 8000000
namespace Go.Proofs.YtbdpcngcbnoioaaGreatDoor
open Go.RowKit Go.Shelf
theorem here_sm {t:An.PT} (h:An.hereB t=true):0<=t.n/\t.n<=99:=by
 simp only [An.hereB,Bool.and_eq_true] at h;obtain ⟨⟨h1,_⟩,h2⟩:=h;have h3:(1<=t.k/\t.k<=6):=by simpa [inB] using h1
 have h4:numLo t.k<=t.n/\t.n<=numHi t.k:=by simpa [inB] using h2
 have:0<=numLo t.k/\numHi t.k<=99:=by
  obtain h|h|h|h|h|h:t.k=1\/t.k=2\/t.k=3\/t.k=4\/t.k=5\/t.k=6:=by omega
  all_goals rw [h];decide
 omega
theorem an_sm:∀ {t:An.PT} {d:Nat},An.pokB t d=true->(anTo t).sm
 | t,0,h=>by rw [An.pok_zero] at h;cases h
 | .n0 _ _,_+1,h=>here_sm h
 | .n1 k n a,d+1,h=>by
  have h2:(An.hereB (.n1 k n a)&&An.pokB a d)=true:=h;simp only [Bool.and_eq_true] at h2;exact ⟨here_sm h2.1,an_sm h2.2⟩
 | .n2 k n a b,d+1,h=>by
  have h2:(An.hereB (.n2 k n a b)&&An.pokB a d&&An.pokB b d)=true:=h;simp only [Bool.and_eq_true] at h2;exact ⟨here_sm h2.1.1,an_sm h2.1.2,an_sm h2.2⟩
 | .nm _ _ _,_+1,h=>by cases h
theorem plannedR_not (ea:Addr) {t:An.PT} {B:Nat} {s iv:Value} {K:List (List Rw)} {w:World} (hp:An.pokB t 4=false) (hsm:t.sm) (hpw:Pow w) (hs:An.KdS B w t s) (hi:LyR w iv K) (hg:w.cell? ⟨0,0,none⟩=some (erV ea)) :
  Calls Tryz.prog 99 #[pl t.k t.n s,iv, .func (.func 30) #[] #[], .func (.func 100) #[] #[]] w fun e w'=>e= .returned (.tuple #[.slice none 0 0, .bool false])/\Below w.heap.size w w':=by
 have bP:Bk (w.alloc (.cells #[.int .i64 t.k, .int .i64 t.n,s] 25)) w.heap.size #[.int .i64 t.k, .int .i64 t.n,s] 25:=Bk.new _ _ rfl;have hb0:Below w.heap.size w (w.alloc (.cells #[.int .i64 t.k, .int .i64 t.n,s] 25)):=bAz (Below.refl _ _) _;obtain ⟨x0,x1,x2⟩:=bP.three';have HC:=(show Hid _ from An.okPlan_any ea 4 t 1 (by omega) (by omega) hsm (An.pow_keep hpw hb0 rfl) (hs.keep hb0) (cB hb0 hg));have HP:=(show Hid _ from hp);obtain ⟨a,c,rfl⟩:=hs.sl;obtain ⟨ia,ic,rfl⟩:=hi.sl;clear hs hsm bP hi hp hpw;go_enter Tryz.func99,Tryz.ntmps99;go_wp2_with fail;refine Calls.mono HC.out ?_;rintro e w1 ⟨hor,hb1⟩;have hbw:=bSz hb0 hb1;clear HC x0 x1 x2
 rcases hor with ⟨hp,_⟩|⟨_,rfl⟩
 ·rw [HP.out] at hp;cases hp
 ·have hb2:=bAz hbw (.cells #[.nilIface, .slice none 0 0] 161);have hg2:=cB hb2 hg;go_wp2_with fail;refine (is_same _ _).mono ?_;rintro e w2 ⟨rfl,rfl⟩;go_wp2_with fail;refine bodyPost_ret (v:= .tuple #[.slice none 0 0, .bool false]) (by simp [results,Tryz.results99,go_sem];try rfl) rfl ?_;exact ⟨rfl,hb2⟩
theorem implFlow_not (ea:Addr) {t:An.PT} {B:Nat} {s iv:Value} {K:List (List Rw)} {w:World} (hp:An.pokB t 4=false) (hsm:t.sm) (hpw:Pow w) (hs:An.KdS B w t s) (hi:LyR w iv K) (hg:w.cell? ⟨0,0,none⟩=some (erV ea)) :
  Calls Tryz.prog 36 #[pl t.k t.n s,iv] w fun e w'=>e= .returned (.tuple #[.slice none 0 0, .bool false])/\Below w.heap.size w w':=by
 have bP:Bk (w.alloc (.cells #[.int .i64 t.k, .int .i64 t.n,s] 25)) w.heap.size #[.int .i64 t.k, .int .i64 t.n,s] 25:=Bk.new _ _ rfl;have hb0:Below w.heap.size w (w.alloc (.cells #[.int .i64 t.k, .int .i64 t.n,s] 25)):=bAz (Below.refl _ _) _;obtain ⟨x0,x1,x2⟩:=bP.three';have HM:=(show Hid _ from plannedR_not ea hp hsm (An.pow_keep hpw hb0 rfl) (hs.keep hb0) (hi.keep hb0) (cB hb0 hg));obtain ⟨a,c,rfl⟩:=hs.sl;obtain ⟨ia,ic,rfl⟩:=hi.sl;clear hs hi hsm bP hp hpw;go_enter Tryz.func36,Tryz.ntmps36;go_wp2_with fail;refine Calls.mono HM.out ?_;rintro e w1 ⟨rfl,hb1⟩;clear HM x0 x1 x2;go_wp2_with fail;refine bodyPost_ret (v:= .tuple #[.slice none 0 0, .bool false]) (by simp [results,Tryz.results36,go_sem];try rfl) rfl ?_;exact ⟨rfl,bSz hb0 hb1⟩
theorem specFlow_not {t:An.PT} {B:Nat} {s iv:Value} {K:List (List Rw)} {w:World} (hp:An.pokB t 4=false) (hs:An.KdS B w t s) (hi:LyR w iv K) :
  Calls Tryz.prog 69 #[pl t.k t.n s,iv] w fun e w'=>∃ o:Value,e= .returned (.tuple #[o, .bool false])/\OwnR w' w.heap.size o []/\Below w.heap.size w w':=by
 have bP:Bk (w.alloc (.cells #[.int .i64 t.k, .int .i64 t.n,s] 25)) w.heap.size #[.int .i64 t.k, .int .i64 t.n,s] 25:=Bk.new _ _ rfl;have hb0:Below w.heap.size w (w.alloc (.cells #[.int .i64 t.k, .int .i64 t.n,s] 25)):=bAz (Below.refl _ _) _;obtain ⟨x0,x1,x2⟩:=bP.three';have HC:=(show Hid _ from An.specPlanOk_any (hs.keep hb0));obtain ⟨a,c,rfl⟩:=hs.sl;obtain ⟨ia,ic,rfl⟩:=hi.sl;clear hs hi bP;go_enter Tryz.func69,Tryz.ntmps69;go_wp2_with fail;refine Calls.mono HC.out ?_;rw [hp];rintro e w1 ⟨rfl,hb1⟩;have hbw1:=bSz hb0 hb1;have hs1:=hbw1.size;clear HC x0 x1 x2;go_wp2_with fail;refine bodyPost_ret (by simp [results,Tryz.results69,go_sem];try rfl) rfl ?_;exact ⟨_,rfl,oLz (oEz w1 rfl) hs1,bAz hbw1 _⟩
end Go.Proofs.YtbdpcngcbnoioaaGreatDoor
set_option maxRecDepth 100000
set_option maxHeartbeats 16000000
namespace Go.Proofs.YtbdpcngcbnoioaaGreatDoor
open Go.RowKit Go.Shelf
structure XS where
 t:RT
 K:List (List Rw)
 f:LI
 d:List Rw
def XS.ss (s:XS):SS:=⟨anTo s.t.cut,s.K,s.f,s.d⟩
theorem XS.ss_k (s:XS):s.ss.t.k=s.t.k:=by show (anTo s.t.cut).k=_;rw [anTo_k,RT.cut_k]
theorem XS.ss_n (s:XS):s.ss.t.n=s.t.n:=by show (anTo s.t.cut).n=_;rw [anTo_n,RT.cut_n]
def allX (s:XS):Option (List Rw):=if An.pokB s.t.cut 4=true then allS s.ss else none
theorem allX_yes {s:XS} (h:An.pokB s.t.cut 4=true):allX s=allS s.ss:=by unfold allX;rw [if_pos h]
theorem allX_no {s:XS} (h:An.pokB s.t.cut 4=false):allX s=none:=by unfold allX;rw [h];rfl
structure SesX (w:World) (sp si sf sd:Value) (s:XS):Prop where
 rd:RdS 0 w s.t sp
 ly:LyR w si s.K
 ts:Ts w sf s.f
 rs:Rs w sd s.d
theorem SesX.keep {w w1:World} {sp si sf sd:Value} {s:XS} (h:SesX w sp si sf sd s) (hb:Below w.heap.size w w1):SesX w1 sp si sf sd s:=⟨h.rd.keep hb,h.ly.keep hb,h.ts.keep hb,h.rs.keep hb⟩
theorem SesX.sl {w:World} {sp si sf sd:Value} {s:XS} (h:SesX w sp si sf sd s):∃ a0 c0 a1 c1 a2 c2 a3 c3,sp= .slice a0 s.t.m c0/\si= .slice a1 s.K.length c1/\sf= .slice a2 s.f.length c2/\sd= .slice a3 s.d.length c3:=by
 obtain ⟨a0,c0,e0,-⟩:=h.rd.sl;obtain ⟨a1,c1,e1⟩:=h.ly.sl;obtain ⟨a2,c2,e2,-⟩:=h.ts;obtain ⟨a3,c3,e3,-⟩:=Rs.open h.rs;exact ⟨a0,c0,a1,c1,a2,c2,a3,c3,e0,e1,e2,e3⟩
theorem SesX.ses {w:World} {sp si sf sd:Value} {s:XS} (hp:An.pokB s.t.cut 4=true) (h:SesX w sp si sf sd s):Ses w sp si sf sd s.ss:=⟨an_kds hp h.rd.cut,h.ly,h.ts,h.rs⟩
theorem implFlow_rnot (ea:Addr) {t:RT} {B:Nat} {s iv:Value} {K:List (List Rw)} {w:World} (hp:An.pokB t.cut 4=false) (hf:t.fits) (hpw:Pow w) (hs:RdS B w t s) (hi:LyR w iv K) (hg:w.cell? ⟨0,0,none⟩=some (erV ea)) :
  Calls Tryz.prog 36 #[pl t.k t.n s,iv] w fun e w'=>e= .returned (.tuple #[.slice none 0 0, .bool false])/\Below w.heap.size w w':=by
 have h:=implFlow_not ea hp (RT.cut_sm hf) hpw hs.cut hi hg;rw [RT.cut_k,RT.cut_n] at h;exact h
theorem specFlow_rnot {t:RT} {B:Nat} {s iv:Value} {K:List (List Rw)} {w:World} (hp:An.pokB t.cut 4=false) (hs:RdS B w t s) (hi:LyR w iv K) :
  Calls Tryz.prog 69 #[pl t.k t.n s,iv] w fun e w'=>∃ o:Value,e= .returned (.tuple #[o, .bool false])/\OwnR w' w.heap.size o []/\Below w.heap.size w w':=by
 have h:=specFlow_not hp hs.cut hi;rw [RT.cut_k,RT.cut_n] at h;exact h
theorem allMade_not (ea:Addr) {s:XS} {sp si sf sd:Value} {w:World} (hp:An.pokB s.t.cut 4=false) (hfit:s.t.fits) (hpw:Pow w) (h:SesX w sp si sf sd s) (hg:w.cell? ⟨0,0,none⟩=some (erV ea)) :
  Calls Tryz.prog 79 #[sv s.t.k s.t.n sp si sf sd] w fun e w'=>e= .returned (.tuple #[.slice none 0 0, .bool false])/\Below w.heap.size w w':=by
 obtain ⟨a0,c0,a1,c1,a2,c2,a3,c3,rfl,rfl,rfl,rfl⟩:=h.sl;have bS:Bk (w.alloc (.cells (sc s.t.k s.t.n (.slice a0 s.t.m c0) (.slice a1 s.K.length c1) (.slice a2 s.f.length c2) (.slice a3 s.d.length c3)) 30)) w.heap.size (sc s.t.k s.t.n (.slice a0 s.t.m c0) (.slice a1 s.K.length c1) (.slice a2 s.f.length c2) (.slice a3 s.d.length c3)) 30:=Bk.new _ _ rfl;have hb0:Below w.heap.size w (w.alloc (.cells (sc s.t.k s.t.n (.slice a0 s.t.m c0) (.slice a1 s.K.length c1) (.slice a2 s.f.length c2) (.slice a3 s.d.length c3)) 30)):=bAz (Below.refl _ _) _;have HS:=(show Hid (SesX _ _ _ _ _ _) from h.keep hb0);have hg0:=cB hb0 hg;have HF:=(show Hid _ from And.intro hp (And.intro hfit hpw));obtain ⟨x0,x1,x2,x3,x4,x5⟩:=bS.six;clear h hp hfit hpw;cases hf:fokB s.f
 ·go_enter Tryz.func79,Tryz.ntmps79;go_wp2_with fail;generalize (w.alloc (.cells (sc s.t.k s.t.n (.slice a0 s.t.m c0) (.slice a1 s.K.length c1) (.slice a2 s.f.length c2) (.slice a3 s.d.length c3)) 30))=W0 at *;refine (implFrontOk_eq hf HS.out.ts).mono ?_;rintro e w1 ⟨rfl,hb1⟩;have hbw:=bSz hb0 hb1;clear x0 x1 x2 x3 x4 x5;go_wp2_with fail;go_ret2;exact ⟨rfl,hbw⟩
 go_enter Tryz.func79,Tryz.ntmps79;go_wp2_with fail;generalize (w.alloc (.cells (sc s.t.k s.t.n (.slice a0 s.t.m c0) (.slice a1 s.K.length c1) (.slice a2 s.f.length c2) (.slice a3 s.d.length c3)) 30))=W0 at *;refine (implFrontOk_eq hf HS.out.ts).mono ?_;rintro e w1 ⟨rfl,hb1⟩;have hbw1:=bSz hb0 hb1;have HC:=(show Hid _ from implFlow_rnot ea HF.out.1 HF.out.2.1 (An.pow_keep HF.out.2.2 hbw1 rfl) (HS.out.keep hb1).rd (HS.out.keep hb1).ly (cB hb1 hg0));obtain ⟨y0,y1,y2,y3,y4,y5⟩:=(bS.keep hb1).six;clear x0 x1 x2 x3 x4 x5 bS hb0 hb1 hg0 hf HS;go_wp2_with fail;refine Calls.mono HC.out ?_;rintro e w2 ⟨rfl,hb2⟩;have hbw2:=bSz hbw1 hb2;clear y0 y1 y2 y3 y4 y5 HC;go_wp2_with fail
 go_quiet (fail)
 have hbq:Below w.heap.size w (w2.drewN nq):=bDz hbw2 _;go_wp2_with fail;go_ret2;exact ⟨rfl,hbq⟩
theorem specSessOk_not {s:XS} {sp si sf sd:Value} {w:World} (hp:An.pokB s.t.cut 4=false) (h:SesX w sp si sf sd s) :
  Calls Tryz.prog 18 #[sv s.t.k s.t.n sp si sf sd] w fun e w'=>e= .returned (.bool false)/\Below w.heap.size w w':=by
 obtain ⟨a0,c0,a1,c1,a2,c2,a3,c3,rfl,rfl,rfl,rfl⟩:=h.sl;have bS:Bk (w.alloc (.cells (sc s.t.k s.t.n (.slice a0 s.t.m c0) (.slice a1 s.K.length c1) (.slice a2 s.f.length c2) (.slice a3 s.d.length c3)) 30)) w.heap.size (sc s.t.k s.t.n (.slice a0 s.t.m c0) (.slice a1 s.K.length c1) (.slice a2 s.f.length c2) (.slice a3 s.d.length c3)) 30:=Bk.new _ _ rfl;have hb0:Below w.heap.size w (w.alloc (.cells (sc s.t.k s.t.n (.slice a0 s.t.m c0) (.slice a1 s.K.length c1) (.slice a2 s.f.length c2) (.slice a3 s.d.length c3)) 30)):=bAz (Below.refl _ _) _;have HS:=(show Hid (SesX _ _ _ _ _ _) from h.keep hb0);have HP:=(show Hid _ from hp);obtain ⟨x0,x1,x2,x3,x4,x5⟩:=bS.six;clear h hp;cases hf:fokB s.f
 ·go_enter Tryz.func18,Tryz.ntmps18;go_wp2_with fail;generalize (w.alloc (.cells (sc s.t.k s.t.n (.slice a0 s.t.m c0) (.slice a1 s.K.length c1) (.slice a2 s.f.length c2) (.slice a3 s.d.length c3)) 30))=W0 at *;refine (sQz hf HS.out.ts).mono ?_;rintro e w1 ⟨rfl,hb1⟩;have hbw:=bSz hb0 hb1;clear x0 x1 x2 x3 x4 x5;go_wp2_with fail;go_ret;exact ⟨rfl,hbw⟩
 go_enter Tryz.func18,Tryz.ntmps18;go_wp2_with fail;generalize (w.alloc (.cells (sc s.t.k s.t.n (.slice a0 s.t.m c0) (.slice a1 s.K.length c1) (.slice a2 s.f.length c2) (.slice a3 s.d.length c3)) 30))=W0 at *;refine (sQz hf HS.out.ts).mono ?_;rintro e w1 ⟨rfl,hb1⟩;have hbw1:=bSz hb0 hb1;have HC:=(show Hid _ from specFlow_rnot HP.out (HS.out.keep hb1).rd (HS.out.keep hb1).ly);obtain ⟨y0,y1,y2,y3,y4,y5⟩:=(bS.keep hb1).six;clear x0 x1 x2 x3 x4 x5 bS hb0 hb1 hf HS;go_wp2_with fail;refine Calls.mono HC.out ?_;rintro e w2 ⟨o2,rfl,own2,hb2⟩;have hbw2:=bSz hbw1 hb2;clear y0 y1 y2 y3 y4 y5 HC own2;go_wp2_with fail
 go_quiet (fail)
 have hbq:Below w.heap.size w (w2.drewN nq):=bDz hbw2 _;go_wp2_with fail;go_ret;exact ⟨rfl,hbq⟩
theorem specSessOk_rt {s:XS} {b:Bool} (he:(allX s).isSome=b) {sp si sf sd:Value} {w:World} (h:SesX w sp si sf sd s) :
  Calls Tryz.prog 18 #[sv s.t.k s.t.n sp si sf sd] w fun e w'=>e= .returned (.bool b)/\Below w.heap.size w w':=by
 subst he;cases hp:An.pokB s.t.cut 4
 ·rw [allX_no hp];exact specSessOk_not hp h
 ·have h2:=specSessOk_any (s:=s.ss) (h.ses hp);rw [s.ss_k,s.ss_n] at h2;rw [allX_yes hp];exact h2
end Go.Proofs.YtbdpcngcbnoioaaGreatDoor
