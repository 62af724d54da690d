import Derived.Test.YtpkfgjloepbfpaaGreatDoorAn7
import Derived.Test.YtpkfgjloepbfpaaGreatDoorGmr
namespace Go.Proofs.YtpkfgjloepbfpaaGreatDoor
open Go.RowKit Go.Shelf
end Go.Proofs.YtpkfgjloepbfpaaGreatDoor
set_option maxRecDepth 100000
set_option maxHeartbeats 8000000
namespace Go.Proofs.YtpkfgjloepbfpaaGreatDoor
open Go.RowKit Go.Shelf
def flowX (t:RT) (K:List (List Rw)):Option (List Rw):=if An.pokB t.cut 4=true then flowR (anTo t.cut) K else none
theorem flowX_len {t:RT} {K:List (List Rw)}:((flowX t K).getD []).length<=400:=by
 unfold flowX
 split
 ·cases h:flowR (anTo t.cut) K with
  | none=>simp
  | some r =>
   obtain ⟨a,b,_,_,_,_,hp⟩:=flowR_some h;exact planR_len hp
 ·simp
theorem here_sm {t:An.PT} (h:An.hereB t=true):0<=t.n/\t.n<=99:=by
 simp only [An.hereB,Bool.and_eq_true] at h;obtain ⟨⟨h1,_⟩,h2⟩:=h;have h3:(1<=t.k/\t.k<=6):=by simpa [inB] using h1
 have h4:numLo t.k<=t.n/\t.n<=numHi t.k:=by simpa [inB] using h2
 have:0<=numLo t.k/\numHi t.k<=99:=by
  obtain h|h|h|h|h|h:t.k=1\/t.k=2\/t.k=3\/t.k=4\/t.k=5\/t.k=6:=by omega
  all_goals rw [h];decide
 omega
theorem an_sm:∀ {t:An.PT} {d:Nat},An.pokB t d=true->(anTo t).sm
 | t,0,h=>by rw [An.pok_zero] at h;cases h
 | .n0 _ _,_+1,h=>here_sm h
 | .n1 k n a,d+1,h=>by
  have h2:(An.hereB (.n1 k n a)&&An.pokB a d)=true:=h;simp only [Bool.and_eq_true] at h2;exact ⟨here_sm h2.1,an_sm h2.2⟩
 | .n2 k n a b,d+1,h=>by
  have h2:(An.hereB (.n2 k n a b)&&An.pokB a d&&An.pokB b d)=true:=h;simp only [Bool.and_eq_true] at h2;exact ⟨here_sm h2.1.1,an_sm h2.1.2,an_sm h2.2⟩
 | .nm _ _ _,_+1,h=>by cases h
abbrev FlowPost (t:RT) (K:List (List Rw)) (w:World) (e:Ending) (w':World):Prop:=∃ o:Value,e= .returned (.tuple #[o, .bool (flowX t K).isSome])/\OwnR w' w.heap.size o ((flowX t K).getD [])/\Below w.heap.size w w'
theorem plannedR_not (ea:Addr) {t:An.PT} {B:Nat} {s iv:Value} {K:List (List Rw)} {w:World} (hp:An.pokB t 4=false) (hsm:t.sm) (hpw:Pow w) (hs:An.KdS B w t s) (hi:LyR w iv K) (hg:w.cell? ⟨0,0,none⟩=some (erV ea)) :
  Calls Tryz.prog 24 #[pl t.k t.n s,iv, .func (.func 25) #[] #[], .func (.func 26) #[] #[]] w fun e w'=>e= .returned (.tuple #[.slice none 0 0, .bool false])/\Below w.heap.size w w':=by
 have bP:Bk (w.alloc (.cells #[.int .i64 t.k, .int .i64 t.n,s] 33)) w.heap.size #[.int .i64 t.k, .int .i64 t.n,s] 33:=Bk.new _ _ rfl;have hb0:Below w.heap.size w (w.alloc (.cells #[.int .i64 t.k, .int .i64 t.n,s] 33)):=bAz (Below.refl _ _) _;obtain ⟨x0,x1,x2⟩:=bP.three';have HC:=(show Hid _ from An.okPlan_any ea 4 t 1 (by omega) (by omega) hsm (An.pow_keep hpw hb0 rfl) (hs.keep hb0) (cB hb0 hg));have HP:=(show Hid _ from hp);obtain ⟨a,c,rfl⟩:=hs.sl;obtain ⟨ia,ic,rfl⟩:=hi.sl;clear hs hsm bP hi hp hpw;go_enter Tryz.func24,Tryz.ntmps24;go_wp2_with fail;refine Calls.mono HC.out ?_;rintro e w1 ⟨hor,hb1⟩;have hbw:=bSz hb0 hb1;clear HC x0 x1 x2
 rcases hor with ⟨hp,_⟩|⟨_,rfl⟩
 ·rw [HP.out] at hp;cases hp
 ·have hb2:=bAz hbw (.cells #[.nilIface, .slice none 0 0] 74);have hg2:=cB hb2 hg;go_wp2_with fail;refine (is_same _ _).mono ?_;rintro e w2 ⟨rfl,rfl⟩;go_wp2_with fail;refine bodyPost_ret (v:= .tuple #[.slice none 0 0, .bool false]) (by simp [results,Tryz.results24,go_sem];try rfl) rfl ?_;exact ⟨rfl,hb2⟩
theorem implFlow_not (ea:Addr) {t:An.PT} {B:Nat} {s iv:Value} {K:List (List Rw)} {w:World} (hp:An.pokB t 4=false) (hsm:t.sm) (hpw:Pow w) (hs:An.KdS B w t s) (hi:LyR w iv K) (hg:w.cell? ⟨0,0,none⟩=some (erV ea)) :
  Calls Tryz.prog 9 #[pl t.k t.n s,iv] w fun e w'=>e= .returned (.tuple #[.slice none 0 0, .bool false])/\Below w.heap.size w w':=by
 have bP:Bk (w.alloc (.cells #[.int .i64 t.k, .int .i64 t.n,s] 33)) w.heap.size #[.int .i64 t.k, .int .i64 t.n,s] 33:=Bk.new _ _ rfl;have hb0:Below w.heap.size w (w.alloc (.cells #[.int .i64 t.k, .int .i64 t.n,s] 33)):=bAz (Below.refl _ _) _;obtain ⟨x0,x1,x2⟩:=bP.three';have HM:=(show Hid _ from plannedR_not ea hp hsm (An.pow_keep hpw hb0 rfl) (hs.keep hb0) (hi.keep hb0) (cB hb0 hg));obtain ⟨a,c,rfl⟩:=hs.sl;obtain ⟨ia,ic,rfl⟩:=hi.sl;clear hs hi hsm bP hp hpw;go_enter Tryz.func9,Tryz.ntmps9;go_wp2_with fail;refine Calls.mono HM.out ?_;rintro e w1 ⟨rfl,hb1⟩;clear HM x0 x1 x2;go_wp2_with fail;refine bodyPost_ret (v:= .tuple #[.slice none 0 0, .bool false]) (by simp [results,Tryz.results9,go_sem];try rfl) rfl ?_;exact ⟨rfl,bSz hb0 hb1⟩
theorem specFlow_not {t:An.PT} {B:Nat} {s iv:Value} {K:List (List Rw)} {w:World} (hp:An.pokB t 4=false) (hs:An.KdS B w t s) (hi:LyR w iv K) :
  Calls Tryz.prog 6 #[pl t.k t.n s,iv] w fun e w'=>∃ o:Value,e= .returned (.tuple #[o, .bool false])/\OwnR w' w.heap.size o []/\Below w.heap.size w w':=by
 have bP:Bk (w.alloc (.cells #[.int .i64 t.k, .int .i64 t.n,s] 33)) w.heap.size #[.int .i64 t.k, .int .i64 t.n,s] 33:=Bk.new _ _ rfl;have hb0:Below w.heap.size w (w.alloc (.cells #[.int .i64 t.k, .int .i64 t.n,s] 33)):=bAz (Below.refl _ _) _;obtain ⟨x0,x1,x2⟩:=bP.three';have HC:=(show Hid _ from An.specPlanOk_any (hs.keep hb0));obtain ⟨a,c,rfl⟩:=hs.sl;obtain ⟨ia,ic,rfl⟩:=hi.sl;clear hs hi bP;go_enter Tryz.func6,Tryz.ntmps6;go_wp2_with fail;refine Calls.mono HC.out ?_;rw [hp];rintro e w1 ⟨rfl,hb1⟩;have hbw1:=bSz hb0 hb1;have hs1:=hbw1.size;clear HC x0 x1 x2;go_wp2_with fail;refine bodyPost_ret (by simp [results,Tryz.results6,go_sem];try rfl) rfl ?_;exact ⟨_,rfl,oL (oEz w1 rfl) hs1,bAz hbw1 _⟩
theorem implPlanFlow_rt (ea:Addr) {t:RT} {B:Nat} {s iv:Value} {K:List (List Rw)} {w:World} (hf:t.fits) (hpw:Pow w) (hs:RdS B w t s) (hi:LyR w iv K) (hg:w.cell? ⟨0,0,none⟩=some (erV ea)) :
  Calls Tryz.prog 9 #[pl t.k t.n s,iv] w (FlowPost t K w):=by
 cases hp:An.pokB t.cut 4
 ·have h:=implFlow_not ea hp (RT.cut_sm hf) hpw hs.cut hi hg;rw [RT.cut_k,RT.cut_n] at h;have e1:flowX t K=none:=by unfold flowX;rw [hp];rfl
  refine h.mono fun e w1 ⟨he,hb⟩=>?_
  show ∃ o:Value,_
  rw [e1];exact ⟨_,he,oN _ _ _ _ _,hb⟩
 ·have h:=implPlanFlow_any ea (an_sm hp) (an_kds hp hs.cut) hi hg (fun _ _ _ _ _ _=>trivial);rw [anTo_k,anTo_n,RT.cut_k,RT.cut_n] at h;have e1:flowX t K=flowR (anTo t.cut) K:=by unfold flowX;rw [if_pos hp]
  show Calls _ _ _ _ fun e w'=>∃ o:Value,_
  rw [e1];exact h
theorem specPlanFlow_rt {t:RT} {B:Nat} {s iv:Value} {K:List (List Rw)} {w:World} (hs:RdS B w t s) (hi:LyR w iv K) :
  Calls Tryz.prog 6 #[pl t.k t.n s,iv] w (FlowPost t K w):=by
 cases hp:An.pokB t.cut 4
 ·have h:=specFlow_not hp hs.cut hi;rw [RT.cut_k,RT.cut_n] at h;have e1:flowX t K=none:=by unfold flowX;rw [hp];rfl
  show Calls _ _ _ _ fun e w'=>∃ o:Value,_
  rw [e1];exact h
 ·have h:=specPlanFlow_any (an_kds hp hs.cut) hi (fun _ _ _ _ _ _=>trivial);rw [anTo_k,anTo_n,RT.cut_k,RT.cut_n] at h;have e1:flowX t K=flowR (anTo t.cut) K:=by unfold flowX;rw [if_pos hp]
  show Calls _ _ _ _ fun e w'=>∃ o:Value,_
  rw [e1];exact h
abbrev FlowEq (t:RT) (K:List (List Rw)) (R:List Rw) (b:Bool):Prop:=(flowX t K).getD []=R/\(flowX t K).isSome=b
theorem implFlow_q (ea:Addr) {t:RT} {B:Nat} {s iv:Value} {K:List (List Rw)} {R:List Rw} {b:Bool} {w:World} (h:FlowEq t K R b) (hf:t.fits) (hpw:Pow w) (hs:RdS B w t s) (hi:LyR w iv K) (hg:w.cell? ⟨0,0,none⟩=some (erV ea)) :
  Calls Tryz.prog 9 #[pl t.k t.n s,iv] w fun e w'=>∃ o:Value,e= .returned (.tuple #[o, .bool b])/\OwnR w' w.heap.size o R/\Below w.heap.size w w':=by
 obtain ⟨rfl,rfl⟩:=h;exact implPlanFlow_rt ea hf hpw hs hi hg
theorem specFlow_q {t:RT} {B:Nat} {s iv:Value} {K:List (List Rw)} {R:List Rw} {b:Bool} {w:World} (h:FlowEq t K R b) (hs:RdS B w t s) (hi:LyR w iv K) :
  Calls Tryz.prog 6 #[pl t.k t.n s,iv] w fun e w'=>∃ o:Value,e= .returned (.tuple #[o, .bool b])/\OwnR w' w.heap.size o R/\Below w.heap.size w w':=by
 obtain ⟨rfl,rfl⟩:=h;exact specPlanFlow_rt hs hi
end Go.Proofs.YtpkfgjloepbfpaaGreatDoor
