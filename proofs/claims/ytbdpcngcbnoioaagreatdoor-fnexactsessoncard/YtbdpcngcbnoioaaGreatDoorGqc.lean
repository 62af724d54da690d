import Derived.Test.YtbdpcngcbnoioaaGreatDoorGqa
import Derived.Test.YtbdpcngcbnoioaaGreatDoorGmr
set_option maxRecDepth 100000
set_option maxHeartbeats 16000000
namespace Go.Proofs.YtbdpcngcbnoioaaGreatDoor
open Go.RowKit Go.Shelf
attribute [local go_sem ↓] Go.wp_at_zero Go.wp_at_succ
theorem allMade_any (ea:Addr) {s:SS} {sp si sf sd:Value} {w:World} (hsm:s.t.sm) (h:Ses w sp si sf sd s) (hg:w.cell? ⟨0,0,none⟩=some (erV ea)) :
  Calls Tryz.prog 79 #[sv s.t.k s.t.n sp si sf sd] w fun e w'=>∃ (a:Option Addr) (c:Nat),e= .returned (.tuple #[.slice a ((allS s).getD []).length c, .bool (allS s).isSome])/\Rs w' (.slice a ((allS s).getD []).length c) ((allS s).getD [])/\Below w.heap.size w w':=by
 obtain ⟨a0,c0,a1,c1,a2,c2,a3,c3,rfl,rfl,rfl,rfl⟩:=h.sl;have bS:Bk (w.alloc (.cells (sc s.t.k s.t.n (.slice a0 s.t.len c0) (.slice a1 s.K.length c1) (.slice a2 s.f.length c2) (.slice a3 s.d.length c3)) 30)) w.heap.size (sc s.t.k s.t.n (.slice a0 s.t.len c0) (.slice a1 s.K.length c1) (.slice a2 s.f.length c2) (.slice a3 s.d.length c3)) 30:=Bk.new _ _ rfl;have hb0:Below w.heap.size w (w.alloc (.cells (sc s.t.k s.t.n (.slice a0 s.t.len c0) (.slice a1 s.K.length c1) (.slice a2 s.f.length c2) (.slice a3 s.d.length c3)) 30)):=bAz (Below.refl _ _) _;have hS:=h.keep hb0;have hg0:=cB hb0 hg;have HM:=(show Hid (s.t.sm) from hsm);obtain ⟨x0,x1,x2,x3,x4,x5⟩:=bS.six;clear h hsm;cases hf:fokB s.f
 ·have HN:Hid (allS s=none):=by show _=_;unfold allS;rw [hf];rfl
  go_enter Tryz.func79,Tryz.ntmps79;go_wp2_with fail;generalize (w.alloc (.cells (sc s.t.k s.t.n (.slice a0 s.t.len c0) (.slice a1 s.K.length c1) (.slice a2 s.f.length c2) (.slice a3 s.d.length c3)) 30))=W0 at *;refine (implFrontOk_eq hf hS.ts).mono ?_;rintro e w1 ⟨rfl,hb1⟩;have hbw:=bSz hb0 hb1;clear x0 x1 x2 x3 x4 x5;go_wp2_with fail;go_ret2;rw [HN.out];exact ⟨none,0,rfl,OwnR.rs (oN rowC 5 55 _ 0) (by simp),hbw⟩
 go_enter Tryz.func79,Tryz.ntmps79;go_wp2_with fail;generalize (w.alloc (.cells (sc s.t.k s.t.n (.slice a0 s.t.len c0) (.slice a1 s.K.length c1) (.slice a2 s.f.length c2) (.slice a3 s.d.length c3)) 30))=W0 at *;refine (implFrontOk_eq hf hS.ts).mono ?_;rintro e w1 ⟨rfl,hb1⟩;have hS1:=hS.keep hb1;have bS1:=bS.keep hb1;have hbw1:=bSz hb0 hb1;have hg1:=cB hb1 hg0;have HFK:=(show Hid (fokB s.f=true) from hf);clear x0 x1 x2 x3 x4 x5 hS bS hb0 hb1 hg0 hf;obtain ⟨x0,x1,x2,x3,x4,x5⟩:=bS1.six
 rcases hfl:flowR s.t s.K with _|r
 ·have HN:Hid (allS s=none):=by show _=_;unfold allS;rw [HFK.out,hfl];rfl
  have HF:=(show Hid _ from hfl);clear hfl;go_wp2_with fail;refine (implFlow_no ea HF.out HM.out hS1.kd hS1.ly hg1).mono ?_;rintro e w2 ⟨o2,rfl,r2,hb2⟩;have hbw2:=bSz hbw1 hb2;clear x0 x1 x2 x3 x4 x5;go_wp2_with fail
  go_quiet (fail)
  have hbq:Below w.heap.size w (w2.drewN nq):=bDz hbw2 _;go_wp2_with fail;go_ret2;rw [HN.out];exact ⟨none,0,rfl,OwnR.rs (oN rowC 5 55 _ 0) (by simp),hbq⟩
 ·have HF:=(show Hid (flowR s.t s.K=some r) from hfl);have hrl:=flowR_len hfl;clear hfl;go_wp2_with fail;refine (implFlow_yes ea HF.out HM.out hS1.kd hS1.ly hg1).mono ?_;rintro e w2 ⟨o2,rfl,r2,hb2⟩;have hS2:=hS1.keep hb2;have bS2:=bS1.keep hb2;have hbw2:=bSz hbw1 hb2;have HR2:=(show Hid (Rs w2 o2 r) from r2);have hcur:Below w2.heap.size w2 w2.drew:=(Below.refl _ _).drew;have HX:Hid (∀ V:World,Below w2.heap.size w2 V->V.cell? ⟨w.heap.size,0,none⟩=some (.int .i64 s.t.k)/\V.cell? ⟨w.heap.size,1,none⟩=some (.int .i64 s.t.n)/\V.cell? ⟨w.heap.size,2,none⟩=some (.slice a0 s.t.len c0)/\V.cell? ⟨w.heap.size,3,none⟩=some (.slice a1 s.K.length c1)/\V.cell? ⟨w.heap.size,4,none⟩=some (.slice a2 s.f.length c2)/\V.cell? ⟨w.heap.size,5,none⟩=some (.slice a3 s.d.length c3)):=fun V hV=>(bS2.keep hV).six;have HQ:Hid (∀ V:World,Below w2.heap.size w2 V->Rs V o2 r/\Rs V (.slice a3 s.d.length c3) s.d/\Ts V (.slice a2 s.f.length c2) s.f):=fun V hV=>⟨r2.keep hV,(hS2.keep hV).rs,(hS2.keep hV).ts⟩;have hal:=ahead_len s.f r;have hr6:r.length<=1000000:=by omega
  clear x0 x1 x2 x3 x4 x5 hS1 bS1 hS2 bS2 r2 hbw1 hb2 hg1;obtain ⟨x0,x1,x2,x3,x4,x5⟩:=HX.out _ (Below.refl _ _)
  by_cases hd:aheadL s.f r=s.d
  ·have HN:Hid (allS s=some r):=allS_some.2 ⟨HFK.out,HF.out,hd⟩;have HE:Hid (decide (s.d=aheadL s.f r)=true):=decide_eq_true hd.symm;clear hd;go_wp2_with fail
   go_region_held3 (fun V=>V.cell? ⟨w.heap.size,0,none⟩=some (.int .i64 s.t.k)/\V.cell? ⟨w.heap.size,1,none⟩=some (.int .i64 s.t.n)/\V.cell? ⟨w.heap.size,2,none⟩=some (.slice a0 s.t.len c0)/\V.cell? ⟨w.heap.size,3,none⟩=some (.slice a1 s.K.length c1)/\V.cell? ⟨w.heap.size,4,none⟩=some (.slice a2 s.f.length c2)/\V.cell? ⟨w.heap.size,5,none⟩=some (.slice a3 s.d.length c3))
    (first|exact HX.out _ hcur|exact HX.out _ hcA|exact HX.out _ hcB)
    (first
     | (go_at_call 83;with_reducible refine (aheadOf_any _ _ s.f r _ (HQ.out _ hcur).2.2 (HQ.out _ hcur).1 hr6).mono ?_;rintro e wA ⟨oA,rfl,ownA,hbA⟩;have hcA:Below w2.heap.size w2 wA:=bSz hcur hbA;have rA:=OwnR.rs ownA (by omega))
     | (go_at_call 152;with_reducible refine (equalR_eq HE.out (HQ.out _ hcA).2.1 rA).mono ?_;rintro e wB ⟨rfl,hbB⟩;have hcB:Below w2.heap.size w2 wB:=bSz hcA hbB))
   all_goals
    have hbw3:=bSz hbw2 hcB;have hrB:=(HQ.out _ hcB).1;obtain ⟨ao,co,eo,-⟩:=Rs.open hrB;subst eo;go_wp2_with fail;go_ret2;rw [HN.out];exact ⟨ao,co,rfl,hrB,hbw3⟩
  ·have HN:Hid (allS s=none):=by
    show _=_
    rcases ha:allS s with _|r'
    ·rfl
    ·obtain ⟨-,h2,h3⟩:=allS_some.1 ha;rw [HF.out] at h2;cases h2;exact absurd h3 hd
   have HE:Hid (decide (s.d=aheadL s.f r)=false):=decide_eq_false fun e=>hd e.symm;clear hd;go_wp2_with fail
   go_region_held3 (fun V=>V.cell? ⟨w.heap.size,0,none⟩=some (.int .i64 s.t.k)/\V.cell? ⟨w.heap.size,1,none⟩=some (.int .i64 s.t.n)/\V.cell? ⟨w.heap.size,2,none⟩=some (.slice a0 s.t.len c0)/\V.cell? ⟨w.heap.size,3,none⟩=some (.slice a1 s.K.length c1)/\V.cell? ⟨w.heap.size,4,none⟩=some (.slice a2 s.f.length c2)/\V.cell? ⟨w.heap.size,5,none⟩=some (.slice a3 s.d.length c3))
    (first|exact HX.out _ hcur|exact HX.out _ hcA|exact HX.out _ hcB)
    (first
     | (go_at_call 83;with_reducible refine (aheadOf_any _ _ s.f r _ (HQ.out _ hcur).2.2 (HQ.out _ hcur).1 hr6).mono ?_;rintro e wA ⟨oA,rfl,ownA,hbA⟩;have hcA:Below w2.heap.size w2 wA:=bSz hcur hbA;have rA:=OwnR.rs ownA (by omega))
     | (go_at_call 152;with_reducible refine (equalR_eq HE.out (HQ.out _ hcA).2.1 rA).mono ?_;rintro e wB ⟨rfl,hbB⟩;have hcB:Below w2.heap.size w2 wB:=bSz hcA hbB))
   all_goals
    have hbw3:=bSz hbw2 hcB;go_wp2_with fail;go_ret2;rw [HN.out];exact ⟨none,0,rfl,OwnR.rs (oN rowC 5 55 _ 0) (by simp),hbw3⟩
attribute [local go_sem ↓] Go.wp_at_zero Go.wp_at_succ
theorem specSessOk_any {s:SS} {sp si sf sd:Value} {w:World} (h:Ses w sp si sf sd s) :
  Calls Tryz.prog 18 #[sv s.t.k s.t.n sp si sf sd] w fun e w'=>e= .returned (.bool (allS s).isSome)/\Below w.heap.size w w':=by
 obtain ⟨a0,c0,a1,c1,a2,c2,a3,c3,rfl,rfl,rfl,rfl⟩:=h.sl;have bS:Bk (w.alloc (.cells (sc s.t.k s.t.n (.slice a0 s.t.len c0) (.slice a1 s.K.length c1) (.slice a2 s.f.length c2) (.slice a3 s.d.length c3)) 30)) w.heap.size (sc s.t.k s.t.n (.slice a0 s.t.len c0) (.slice a1 s.K.length c1) (.slice a2 s.f.length c2) (.slice a3 s.d.length c3)) 30:=Bk.new _ _ rfl;have hb0:Below w.heap.size w (w.alloc (.cells (sc s.t.k s.t.n (.slice a0 s.t.len c0) (.slice a1 s.K.length c1) (.slice a2 s.f.length c2) (.slice a3 s.d.length c3)) 30)):=bAz (Below.refl _ _) _;have hS:=h.keep hb0;obtain ⟨x0,x1,x2,x3,x4,x5⟩:=bS.six;clear h;cases hf:fokB s.f
 ·have HN:Hid (allS s=none):=by show _=_;unfold allS;rw [hf];rfl
  go_enter Tryz.func18,Tryz.ntmps18;go_wp2_with fail;generalize (w.alloc (.cells (sc s.t.k s.t.n (.slice a0 s.t.len c0) (.slice a1 s.K.length c1) (.slice a2 s.f.length c2) (.slice a3 s.d.length c3)) 30))=W0 at *;refine (sQz hf hS.ts).mono ?_;rintro e w1 ⟨rfl,hb1⟩;have hbw:=bSz hb0 hb1;clear x0 x1 x2 x3 x4 x5;go_wp2_with fail;go_ret;rw [HN.out];exact ⟨rfl,hbw⟩
 go_enter Tryz.func18,Tryz.ntmps18;go_wp2_with fail;generalize (w.alloc (.cells (sc s.t.k s.t.n (.slice a0 s.t.len c0) (.slice a1 s.K.length c1) (.slice a2 s.f.length c2) (.slice a3 s.d.length c3)) 30))=W0 at *;refine (sQz hf hS.ts).mono ?_;rintro e w1 ⟨rfl,hb1⟩;have hS1:=hS.keep hb1;have bS1:=bS.keep hb1;have hbw1:=bSz hb0 hb1;have HFK:=(show Hid (fokB s.f=true) from hf);clear x0 x1 x2 x3 x4 x5 hS bS hb0 hb1 hf;obtain ⟨x0,x1,x2,x3,x4,x5⟩:=bS1.six
 rcases hfl:flowR s.t s.K with _|r
 ·have HN:Hid (allS s=none):=by show _=_;unfold allS;rw [HFK.out,hfl];rfl
  have HF:=(show Hid _ from hfl);clear hfl;go_wp2_with fail;refine (specFlow_no HF.out hS1.kd hS1.ly).mono ?_;rintro e w2 ⟨o2,rfl,r2,hb2⟩;have hbw2:=bSz hbw1 hb2;clear x0 x1 x2 x3 x4 x5;go_wp2_with fail
  go_quiet (fail)
  have hbq:Below w.heap.size w (w2.drewN nq):=bDz hbw2 _;go_wp2_with fail;go_ret;rw [HN.out];exact ⟨rfl,hbq⟩
 ·have HF:=(show Hid (flowR s.t s.K=some r) from hfl);have hrl:=flowR_len hfl;clear hfl;go_wp2_with fail;refine (specFlow_yes HF.out hS1.kd hS1.ly).mono ?_;rintro e w2 ⟨o2,rfl,r2,hb2⟩;have hS2:=hS1.keep hb2;have bS2:=bS1.keep hb2;have hbw2:=bSz hbw1 hb2;have hcur:Below w2.heap.size w2 w2.drew:=(Below.refl _ _).drew;have HX:Hid (∀ V:World,Below w2.heap.size w2 V->V.cell? ⟨w.heap.size,0,none⟩=some (.int .i64 s.t.k)/\V.cell? ⟨w.heap.size,1,none⟩=some (.int .i64 s.t.n)/\V.cell? ⟨w.heap.size,2,none⟩=some (.slice a0 s.t.len c0)/\V.cell? ⟨w.heap.size,3,none⟩=some (.slice a1 s.K.length c1)/\V.cell? ⟨w.heap.size,4,none⟩=some (.slice a2 s.f.length c2)/\V.cell? ⟨w.heap.size,5,none⟩=some (.slice a3 s.d.length c3)):=fun V hV=>(bS2.keep hV).six;have HQ:Hid (∀ V:World,Below w2.heap.size w2 V->Rs V o2 r/\Rs V (.slice a3 s.d.length c3) s.d/\Ts V (.slice a2 s.f.length c2) s.f):=fun V hV=>⟨r2.keep hV,(hS2.keep hV).rs,(hS2.keep hV).ts⟩;have hal:=ahead_len s.f r;have hr6:r.length<=1000000:=by omega
  clear x0 x1 x2 x3 x4 x5 hS1 bS1 hS2 bS2 r2 hbw1 hb2;obtain ⟨x0,x1,x2,x3,x4,x5⟩:=HX.out _ (Below.refl _ _);obtain ⟨b,HN,HE⟩:∃ b:Bool,Hid ((allS s).isSome=b)/\Hid (decide (aheadL s.f r=s.d)=b):=by
   by_cases hd:aheadL s.f r=s.d
   ·exact ⟨true,by show _=_;rw [allS_some.2 ⟨HFK.out,HF.out,hd⟩];rfl,decide_eq_true hd⟩
   ·refine ⟨false,?_,decide_eq_false hd⟩
    show _=_
    rcases ha:allS s with _|r'
    ·rfl
    ·obtain ⟨-,h2,h3⟩:=allS_some.1 ha;rw [HF.out] at h2;cases h2;exact absurd h3 hd
  go_wp2_with fail
  go_region_held3 (fun V=>V.cell? ⟨w.heap.size,0,none⟩=some (.int .i64 s.t.k)/\V.cell? ⟨w.heap.size,1,none⟩=some (.int .i64 s.t.n)/\V.cell? ⟨w.heap.size,2,none⟩=some (.slice a0 s.t.len c0)/\V.cell? ⟨w.heap.size,3,none⟩=some (.slice a1 s.K.length c1)/\V.cell? ⟨w.heap.size,4,none⟩=some (.slice a2 s.f.length c2)/\V.cell? ⟨w.heap.size,5,none⟩=some (.slice a3 s.d.length c3))
   (first|exact HX.out _ hcur|exact HX.out _ hcA|exact HX.out _ hcB)
   (first
    | (go_at_call 71;with_reducible refine (l31Ahead_any _ _ s.f r _ (HQ.out _ hcur).1 (HQ.out _ hcur).2.2 hr6).mono ?_;rintro e wA ⟨oA,rfl,ownA,hbA⟩;have hcA:Below w2.heap.size w2 wA:=bSz hcur hbA;have rA:=OwnR.rs ownA (by omega))
    | (go_at_call 70;with_reducible refine (l31Rows_eq HE.out rA (HQ.out _ hcA).2.1).mono ?_;rintro e wB ⟨rfl,hbB⟩;have hcB:Below w2.heap.size w2 wB:=bSz hcA hbB))
  all_goals
   have hbw3:=bSz hbw2 hcB;go_wp2_with fail;go_ret;rw [HN.out];exact ⟨rfl,hbw3⟩
theorem specSessOk_eq {s:SS} {b:Bool} (he:(allS s).isSome=b) {sp si sf sd:Value} {w:World} (h:Ses w sp si sf sd s) :
  Calls Tryz.prog 18 #[sv s.t.k s.t.n sp si sf sd] w fun e w'=>e= .returned (.bool b)/\Below w.heap.size w w':=by
 rw [<- he];exact specSessOk_any h
theorem ts_open {w:World} {v:Value} {l:LI} (h:Ts w v l):∃ a cap,v= .slice a l.length cap/\l.length<=cap/\cap<=maxLen/\l.length<=2097152 /\
  ∀ i:Nat,i<l.length->∃ g off A B,a=some ⟨g,off,none⟩/\g<w.heap.size/\l[i]?=some (A,B)/\w.cell? ⟨g,off+i*2,none⟩=some (.int .i64 A)/\w.cell? ⟨g,off+i*2+1,none⟩=some (.int .i64 B):=by
 obtain ⟨a,cap,e,h1,h2,h3,h4⟩:=h;refine ⟨a,cap,e,h1,h2,h3,fun i hi=>?_⟩;obtain ⟨g,off,e2,hg,c0,c1⟩:=h4 i hi;exact ⟨g,off,tA l i,tB l i,e2,hg,by simp [tA,tB,hi],c0,c1⟩
theorem coversAll_any (fv gv:Value) (f g:LI) (w:World) (hf:Ts w fv f) (hg:Ts w gv g) :
  Calls Tryz.prog 81 #[fv,gv] w fun e w'=>e= .returned (.bool (covA f g))/\Below w.heap.size w w':=by
 have HT:=(show Hid (Ts w fv f) from hf);obtain ⟨af,capf,rfl,-,-,-,-⟩:=hf;obtain ⟨a,cap,rfl,hc,hm,hn,hcells⟩:=ts_open hg;unfold maxLen at hm;have HC:=(show Hid _ from hcells);clear hcells hg;go_enter Tryz.func81,Tryz.ntmps81;go_wp2_with fail
 go_loopw [9] (fun i wr=>∃ k:Nat,k<=g.length/\i= .int .i64 k/\covA f (g.take k)=true/\Below w.heap.size w wr) (fun i _=>g.length-(intOf i).toNat)
 case atStart=>exact ⟨0,by omega,rfl,rfl,Below.refl _ _⟩
 case round =>
  obtain ⟨k,hkl,rfl,hall,hb⟩:=hrel;have HA:=(show Hid (covA f (g.take k)=true) from hall);clear hall
  by_cases hlt:k<g.length
  ·obtain ⟨q,off,A,B,rfl,hq,hr,c0,c1⟩:=HC.out k hlt;have HZ:=(show Hid (g[k]?=some (A,B)) from hr);have d0:=cB hb c0;have d1:=cB hb c1;have ik:((k:Int)<(g.length:Int)):=by omega
   have bt0:=Bk.new (w:=wr) #[.int .i64 A, .int .i64 B] 32 rfl;have hbt:Below wr.heap.size wr (wr.alloc (.cells #[.int .i64 A, .int .i64 B] 32)):=bAz (Below.refl _ _) _;have hb':=bSz hb hbt;have T1:=HT.out.keep hb';obtain ⟨x0,x1,_,_⟩:=bt0.two;clear c0 c1 hr hb hbt;cases hcv:covB f A B
   ·have HX:Hid (covA f g=false):=by
     show _=_
     unfold covA;rw [List.all_eq_false];exact ⟨(A,B),List.mem_of_getElem? HZ.out,by simp [hcv]⟩
    go_wp2_with fail;generalize World.alloc _ _=wt at *;refine (implCov_eq hcv T1).mono ?_;rintro e w3 ⟨rfl,hb3⟩;have hb4:=bSz hb' hb3;clear d0 d1 x0 x1;go_wp2_with fail;go_ret;exact ⟨by rw [HX.out];try rfl,hb4⟩
   ·have HX:Hid (covA f (g.take (k+1))=true):=by
     show _=_
     have h1:=HA.out;unfold covA at h1 ⊢;rw [tSz HZ.out,List.all_append,h1];simp [hcv]
    go_wp2_with fail;generalize World.alloc _ _=wt at *;refine (implCov_eq hcv T1).mono ?_;rintro e w3 ⟨rfl,hb3⟩;have hb4:=bSz hb' hb3;clear d0 d1 x0 x1;go_wp2_with fail;go_roundw
    case rel=>exact ⟨k+1,by omega,by go_num,HX.out,hb4⟩
    case measure=>simp [intOf];omega
  ·obtain rfl:k=g.length:=by omega
   have ik:¬ ((g.length:Int)<(g.length:Int)):=by omega
   have HX:Hid (covA f g=true):=by have:=HA.out;rw [List.take_length] at this;exact this
   go_wp2_with fail;go_ret;exact ⟨by rw [HX.out];try rfl,hb⟩
theorem coversAll_eq {f g:LI} {r:Bool} (h:covA f g=r) {fv gv:Value} {w:World} (hf:Ts w fv f) (hg:Ts w gv g) :
  Calls Tryz.prog 81 #[fv,gv] w fun e w'=>e= .returned (.bool r)/\Below w.heap.size w w':=by
 rw [<- h];exact coversAll_any fv gv f g w hf hg
end Go.Proofs.YtbdpcngcbnoioaaGreatDoor
