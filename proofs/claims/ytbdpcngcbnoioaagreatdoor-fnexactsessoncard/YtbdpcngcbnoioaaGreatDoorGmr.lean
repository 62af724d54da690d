import Derived.Test.YtbdpcngcbnoioaaGreatDoorGe1
import Derived.Test.YtbdpcngcbnoioaaGreatDoorGk2
import Derived.Test.YtbdpcngcbnoioaaGreatDoorGpm
import Derived.Test.YtbdpcngcbnoioaaGreatDoorGf2
set_option maxRecDepth 100000
set_option maxHeartbeats 8000000
namespace Go.Proofs.YtbdpcngcbnoioaaGreatDoor
open Go.RowKit
attribute [local go_sem ↓] Go.wp_at_zero Go.wp_at_succ
theorem l11Each_any (v:Value) (l:List Rw) (how:Int) (w:World) (h:Rs w v l) (hk:rokB l=true) (hw:inB how 1 7=true) :
  Calls Tryz.prog 188 #[v, .int .i64 how] w fun e w'=>∃ o:Value,e= .returned o/\OwnR w' w.heap.size o (sumL ltS (eachR how l))/\Below w.heap.size w w':=by
 obtain ⟨a,cap,rfl,hc,hm,hn,hcells⟩:=Rs.open h;unfold maxLen at hm;have HC:=(show Hid _ from hcells);have oE:=oEz w rfl;have hbE:=bAz (Below.refl _ w) (.cells #[] 55);have hl:=rLz hk;have HK:Hid (∀ (k:Nat) (K V A B D:Int),l[k]?=some (((K,V),(A,B)),D)->0<=K/\K<=3/\0<=V/\V<=99/\okB A B=true):=rok_kt hk;have HA:Hid (absum (eachR how l)<=39999600):=by have h1:=eachR_abs how l;have h2:=rok_absF hk;show _<=_;omega
 clear hcells h hk;go_enter Tryz.func188,Tryz.ntmps188;go_wp2_with fail
 go_loopw [5,6] (fun o i wr=>∃ k:Nat,k<=l.length/\i= .int .i64 k/\OwnR wr w.heap.size o (eachR how (l.take k))/\Below w.heap.size w wr) (fun _ i _=>l.length-(intOf i).toNat)
 case atStart=>exact ⟨0,by omega,rfl,by simpa [eachR] using oE,hbE⟩
 case round =>
  clear oE hbE;obtain ⟨k,hkl,rfl,hown,hb⟩:=hrel;have HO:Hid (OwnR wr w.heap.size u5 (eachR how (l.take k))):=hown;have hel:(eachR how (l.take k)).length<=400:=by have:=eachR_len how (l.take k);simp at this;omega
  clear hown;have hsz:=hb.size
  by_cases hlt:k<l.length
  ·obtain ⟨g,off,K,V,A,B,D,rfl,hg,hr,c0,c1,c2,c3,c4⟩:=HC.out k hlt;obtain ⟨i1,i2,i3,i4,-⟩:=HK.out k _ _ _ _ _ hr;have hit:itK (K,V):=⟨i1,i2,i3,i4⟩;have ik:((k:Int)<(l.length:Int)):=by omega
   have d0:∀ p:Bel wr,p.ww.cell? ⟨g,off+k*5,none⟩=some (.int .i64 K):=fun p=>cB p.below (cB hb c0);have d1:∀ p:Bel wr,p.ww.cell? ⟨g,off+k*5+1,none⟩=some (.int .i64 V):=fun p=>cB p.below (cB hb c1);have C2:Hid (w.cell? ⟨g,off+k*5+2,none⟩=some (.int .i64 A)/\w.cell? ⟨g,off+k*5+3,none⟩=some (.int .i64 B)/\w.cell? ⟨g,off+k*5+4,none⟩=some (.int .i64 D)):=⟨c2,c3,c4⟩;have HR:=(show Hid _ from hr);have hne:=bel_some wr;clear c0 c1 c2 c3 c4 hr i1 i2 i3 i4;cases hP:wayP how (K,V)
   ·have HZ:=(show Hid _ from eachR_no HR.out hP);go_wp2_with fail
    (refine wBz (by kernel_rfl) (by kernel_rfl) ?_;(repeat (go_big_quiet_step ((first|(go_at_call 228;exact clz (l3One_eq (by with_reducible assumption) (by with_reducible assumption) (by with_reducible assumption) _))))));refine wpQuiet_nil ?_)
    intro w3 hw3
    replace hw3:=bOz hw3
    have hb3:=bSz hb hw3;have O3:Hid (OwnR w3 w.heap.size u5 (eachR how (l.take k))):=oK HO.out hw3;go_wp2_with fail;go_roundw
    case rel=>exact ⟨k+1,by omega,by go_num,by rw [HZ.out];exact O3.out,hb3⟩
    case measure=>simp [intOf];omega
   ·have HZ:=(show Hid _ from eachR_yes HR.out hP);go_wp2_with fail
    (refine wBz (by kernel_rfl) (by kernel_rfl) ?_;(repeat (go_big_quiet_step ((first|(go_at_call 228;exact clz (l3One_eq (by with_reducible assumption) (by with_reducible assumption) (by with_reducible assumption) _))))));refine wpQuiet_nil ?_)
    intro w3 hw3
    replace hw3:=bOz hw3
    have hb3:=bSz hb hw3;have hs3:=hb3.size;have O3:Hid (OwnR w3 w.heap.size u5 (eachR how (l.take k))):=oK HO.out hw3;have HX:Hid (∀ W,Below w.heap.size w W->W.cell? ⟨g,off+k*5+2,none⟩=some (.int .i64 A)/\W.cell? ⟨g,off+k*5+3,none⟩=some (.int .i64 B)/\W.cell? ⟨g,off+k*5+4,none⟩=some (.int .i64 D)):=fun W hW =>
     ⟨cB hW C2.out.1,cB hW C2.out.2.1,cB hW C2.out.2.2⟩
    have hbD:Below w.heap.size w w3.drew:=hb3.drew;have OD:Hid (OwnR w3.drew w.heap.size u5 (eachR how (l.take k))):=oK O3.out (Below.refl _ _).drew;have hsD:∀ ob:Obj,w.heap.size<=(w3.drew.alloc ob).heap.size:=fun ob=>(bAz hbD ob).size;have eM:wayM how (K,V)=((wayM how (K,V)).1,(wayM how (K,V)).2):=rfl;have HM:Hid (wayM how (K,V)=((wayM how (K,V)).1,(wayM how (K,V)).2)):=eM;clear eM HO O3;generalize (wayM how (K,V)).1=K2 at *;generalize (wayM how (K,V)).2=V2 at *;generalize eachR how (l.take k)=LL at *;have hl2:LL.length<=2000000:=by omega
    obtain ⟨e2,e3,e4⟩:=HX.out _ hb3;have HG:Hid (∀ (w7:World) (ob:Obj),(w3.drew.alloc ob).grownBy w7 u5.ownBlock->Below w.heap.size w w7):=fun w7 ob h3=>Below.grew (bAz hbD _) h3 (bAz hbD ob).size (oB OD.out);go_wp2_with fail
    go_region_held3 (fun W=>W.cell? ⟨g,off+k*5+2,none⟩=some (.int .i64 A)/\W.cell? ⟨g,off+k*5+3,none⟩=some (.int .i64 B)/\W.cell? ⟨g,off+k*5+4,none⟩=some (.int .i64 D))
     (first|exact HX.out _ hbD|exact HX.out _ (bAz hbD _)|exact HX.out _ hb7)
     (first
      | (refine stepR _ (by rfl) _ _ (by rfl) w.heap.size _ LL (by rfl) (OD.out.alloc _) _ K2 V2 A B D (by rfl) (Bk.new _ _ rfl) hl2 (hsD _) ?_;intro g7 cap7 w7 own7 hgrow hlg;have hb7:=HG.out _ _ hgrow))
    go_wp2_with fail;exact ⟨⟨k+1,by omega,by go_num,by rw [HZ.out,HM.out];exact own7,hb7⟩,by simp [intOf];omega⟩
  ·obtain rfl:k=l.length:=by omega
   rw [List.take_length] at HO hel;have R1:Rs wr u5 (eachR how l):=OwnR.rs HO.out (by omega);clear HO;go_wp2_with fail;refine (l2Sum_any _ (eachR how l) _ R1 (by omega) (by have:=HA.out;omega)).mono ?_;rintro e w2 ⟨o2,rfl,own2,hb2⟩;have O2:Hid (OwnR w2 wr.heap.size o2 (sumL ltS (eachR how l))):=own2;clear own2;go_wp2_with fail;go_ret;exact ⟨_,rfl,oLz O2.out hsz,bSz hb hb2⟩
open Go.Shelf
theorem eachRows_any (fn:Nat) (how:Int) (v:Value) (l:List Rw) (w:World) (h:Rs w v l) (hk:rokB l=true) (eg:∀ args w,(callFunc fn args).run Tryz.prog w= .ok (.enter fn args) w)
  (hway:∀ (K V:Int) (W:World),0<=K->K<=3->0<=V->V<=99->Calls Tryz.prog fn #[.agg #[.int .i64 K, .int .i64 V]] W fun e w'=>e= .returned (.tuple #[.agg #[.int .i64 (wayM how (K,V)).1, .int .i64 (wayM how (K,V)).2], .bool (wayP how (K,V))])/\Below W.heap.size W w') :
  Calls Tryz.prog 172 #[v, .func (.func fn) #[] #[]] w fun e w'=>∃ o:Value,e= .returned o/\OwnR w' w.heap.size o (eachR how l)/\Below w.heap.size w w':=by
 have HW:Hid (∀ (K V:Int) (W:World),0<=K->K<=3->0<=V->V<=99->Calls Tryz.prog fn #[.agg #[.int .i64 K, .int .i64 V]] W fun e w'=>e= .returned (.tuple #[.agg #[.int .i64 (wayM how (K,V)).1, .int .i64 (wayM how (K,V)).2], .bool (wayP how (K,V))])/\Below W.heap.size W w'):=hway;have hl:=rLz hk;have HK:Hid (∀ (k:Nat) (K V A B D:Int),l[k]?=some (((K,V),(A,B)),D)->0<=K/\K<=3/\0<=V/\V<=99/\okB A B=true):=rok_kt hk;obtain ⟨a,cap,rfl,hc,hm,hn,hcells⟩:=Rs.open h;unfold maxLen at hm;have HC:=(show Hid _ from hcells);clear hcells h hk hway;go_enter Tryz.func172,Tryz.ntmps172;go_wp2_with fail
 go_loopw [5,12] (fun o i wr=>∃ k:Nat,k<=l.length/\i= .int .i64 k/\OwnR wr w.heap.size o (eachR how (l.take k))/\Below w.heap.size w wr) (fun _ i _=>l.length-(intOf i).toNat)
 case atStart=>exact ⟨0,by omega,rfl,by simpa [eachR] using oN rowC 5 55 w w.heap.size,Below.refl _ _⟩
 case round =>
  obtain ⟨k,hkl,rfl,hown,hb⟩:=hrel;have HO:Hid (OwnR wr w.heap.size u5 (eachR how (l.take k))):=hown;have hel:(eachR how (l.take k)).length<=400:=by have:=eachR_len how (l.take k);simp at this;omega
  clear hown
  by_cases hlt:k<l.length
  ·obtain ⟨g,off,K,V,A,B,D,rfl,hg,hr,c0,c1,c2,c3,c4⟩:=HC.out k hlt;obtain ⟨i1,i2,i3,i4,-⟩:=HK.out k _ _ _ _ _ hr;have d0:=cB hb c0;have d1:=cB hb c1;have d2:=cB hb c2;have d3:=cB hb c3;have d4:=cB hb c4;have ik:((k:Int)<(l.length:Int)):=by omega
   have bx:=Bk.new (w:=wr) #[.int .i64 K, .int .i64 V, .int .i64 A, .int .i64 B, .int .i64 D] 55 rfl;have hbx0:Below wr.heap.size wr (wr.alloc (.cells #[.int .i64 K, .int .i64 V, .int .i64 A, .int .i64 B, .int .i64 D] 55)):=bAz (Below.refl _ _) _;have hbx:=bSz hb hbx0;have O1:Hid (OwnR (wr.alloc (.cells #[.int .i64 K, .int .i64 V, .int .i64 A, .int .i64 B, .int .i64 D] 55)) w.heap.size u5 (eachR how (l.take k))):=oK HO.out hbx0;have HYES:Hid (wayP how (K,V)=true->eachR how (l.take (k+1))=eachR how (l.take k)++[((wayM how (K,V),(A,B)),D)]):=fun hp=>eachR_yes hr hp;have HNO:Hid (wayP how (K,V)=false->eachR how (l.take (k+1))=eachR how (l.take k)):=fun hp=>eachR_no hr hp;clear c0 c1 c2 c3 c4 hr hbx0 hb HO
   go_upto_region 5 with fail
   clear d0 d1 d2 d3 d4;generalize wr.heap.size=tb at *;generalize World.alloc _ _=wx at *;obtain ⟨q0,q1,q2,q3,q4⟩:=bx.five;go_wp2_with fail;refine (HW.out K V _ i1 i2 i3 i4).mono ?_;rintro e wy ⟨rfl,hby⟩;have by1:=bx.keep hby
   have O2:Hid (OwnR wy w.heap.size u5 (eachR how (l.take k))):=oK O1.out hby
   have hbn:=bSz hbx hby
   have HM:Hid (wayM how (K,V)=((wayM how (K,V)).1,(wayM how (K,V)).2)):=rfl;clear q0 q1 q2 q3 q4 bx hbx hby O1;generalize (wayM how (K,V)).1=K2 at *;generalize (wayM how (K,V)).2=V2 at *;generalize hP:wayP how (K,V)=r at *;clear hP;have bt0:=Bk.new (w:=wy) #[.int .i64 K2, .int .i64 V2] 131 rfl;have hbt:Below wy.heap.size wy (wy.alloc (.cells #[.int .i64 K2, .int .i64 V2] 131)):=bAz (Below.refl _ _) _;have bz:=by1.keep hbt;have hbz:=bSz hbn hbt;have O3:Hid (OwnR (wy.alloc (.cells #[.int .i64 K2, .int .i64 V2] 131)) w.heap.size u5 (eachR how (l.take k))):=oK O2.out hbt
   go_upto_region 6 with fail
   clear by1 hbn hbt O2;generalize wy.heap.size=ub at *;generalize World.alloc _ _=wt at *;cases r
   ·have HZ:Hid (eachR how (l.take (k+1))=eachR how (l.take k)):=HNO.out rfl;go_wp2_with fail;go_roundw
    case rel=>exact ⟨k+1,by omega,by go_num,(by rw [HZ.out];exact O3.out),hbz⟩
    case measure=>simp [intOf];omega
   ·have HZ:Hid (eachR how (l.take (k+1))=eachR how (l.take k)++[(((K2,V2),(A,B)),D)]):=by show _=_;rw [HYES.out rfl,HM.out]
    obtain ⟨y0,y1,y2,y3,y4⟩:=bz.five;obtain ⟨t0,t1,_,_⟩:=bt0.two;have hsz:=hbz.size;have O4:=O3.out.alloc (.cells #[.int .i64 K2, .int .i64 V2, .int .i64 A, .int .i64 B, .int .i64 D] 55);clear O3;generalize hE:eachR how (l.take k)=EL at *
    go_wp2_with (at_builtin;refine appR _ rfl _ _ rfl w.heap.size _ EL rfl O4 _ K2 V2 A B D rfl (Bk.new _ _ rfl) (by omega) (by simp;omega) ?_;intro g7 cap7 w7 own7 hgrow hlg)
    have hb7:Below w.heap.size w w7:=Below.grew (bAz hbz _) hgrow (by simp;omega) (oB O4);go_roundw
    case rel=>exact ⟨k+1,by omega,by go_num,by rw [HZ.out];exact own7,hb7⟩
    case measure=>simp [intOf];omega
  ·obtain rfl:k=l.length:=by omega
   rw [List.take_length] at HO;have ik:¬ ((l.length:Int)<(l.length:Int)):=by omega
   go_wp2_with fail;go_ret;exact ⟨_,rfl,HO.out,hb⟩
end Go.Proofs.YtbdpcngcbnoioaaGreatDoor
set_option maxRecDepth 100000
set_option maxHeartbeats 32000000
namespace Go.Proofs.YtbdpcngcbnoioaaGreatDoor
open Go.RowKit Go.Shelf
theorem concat_at (g0 off cap:Nat) (v1 v2:Value) (l1 l2:List Rw) (w:World) (c0:w.cell? ⟨g0,off,none⟩=some v1) (c1:w.cell? ⟨g0,off+1,none⟩=some v2) (h1:Rs w v1 l1) (h2:Rs w v2 l2) (hl:l1.length+l2.length<=2000000) :
  Calls Tryz.prog 88 #[.slice (some ⟨g0,off,none⟩) 2 cap] w fun e w'=>∃ o:Value,e= .returned o/\OwnR w' w.heap.size o (l1++l2)/\Below w.heap.size w w':=by
 have H1:Hid (Rs w v1 l1):=h1;have H2:Hid (Rs w v2 l2):=h2;obtain ⟨a1,cap1,rfl,_,_,_,_⟩:=h1;obtain ⟨a2,cap2,rfl,_,_,_,_⟩:=h2;have C0:=(show Hid _ from c0);have C1:=(show Hid _ from c1);go_enter Tryz.func88,Tryz.ntmps88;generalize hn1:l1.length=n1 at *;generalize hn2:l2.length=n2 at *;have q1:(0:Int)<=(n1:Int):=by omega
 have q2:(n1:Int)<=2000000:=by omega
 have q3:(0:Int)<=(n1:Int)+(n2:Int):=by omega
 have q4:(n1:Int)+(n2:Int)<=2000000:=by omega
 have q5:¬ ((n1:Int)<0):=by omega
 have q6:¬ ((n1:Int)+(n2:Int)<0):=by omega
 have E1:Hid (l1.length=n1):=hn1;have E2:Hid (l2.length=n2):=hn2;clear hn1 hn2;go_wp2_with fail;refine wp_loop_rounds 3 ?_;rw [rounds_succ];go_wp2_with fail;rw [rounds_succ];go_wp2_with fail;rw [rounds_succ];go_wp2_with fail;refine (growR_eq (n:=n1+n2) (by omega) (by omega) _).mono ?_;rintro e w1 ⟨o1,rfl,own1,hb1⟩;have R1:=H1.out.keep hb1;have d0:=cB hb1 C0.out;have d1:=cB hb1 C1.out;have hs1:=hb1.size;have O1:Hid (OwnR w1 w.heap.size o1 []):=own1;clear own1 H1 c0 c1;go_wp2_with fail;refine wp_loop_rounds 3 ?_;rw [rounds_succ]
 go_wp2_with (at_builtin;refine appRs _ rfl _ _ rfl w.heap.size _ [] rfl O1.out _ l1 rfl R1 (by have:=E1.out;simp;omega) (by omega) ?_;intro v3 w3 own3 hg3)
 have hb3:Below w.heap.size w w3:=Below.grew hb1 hg3 (by omega) (oB O1.out);have hs3:=hb3.size;have R2:=H2.out.keep hb3;have O3:Hid (OwnR w3 w.heap.size v3 l1):=by show OwnR _ _ _ _;simpa using own3
 have f0:=cB hb3 C0.out;have f1:=cB hb3 C1.out;clear own3 hg3 d0 d1 R1 O1 hb1 H2 C0 C1;rw [rounds_succ]
 go_wp2_with (at_builtin;refine appRs _ rfl _ _ rfl w.heap.size _ l1 rfl O3.out _ l2 rfl R2 (by have:=E1.out;have:=E2.out;omega) (by omega) ?_;intro v5 w5 own5 hg5)
 have hb5:Below w.heap.size w w5:=Below.grew hb3 hg5 (by omega) (oB O3.out);have O5:Hid (OwnR w5 w.heap.size v5 (l1++l2)):=own5;clear own5 hg5 f0 f1 R2 O3 hb3;rw [rounds_succ];go_wp2_with fail
 go_returns
 exact ⟨_,rfl,O5.out,hb5⟩
structure WayIs (how:Int) (fn:Nat):Prop where
 of:∀ W,Calls Tryz.prog 171 #[.int .i64 how] W fun e w'=>e= .returned (.tuple #[.func (.func fn) #[] #[], .bool true])/\Below W.heap.size W w'
 eg:∀ args w,(callFunc fn args).run Tryz.prog w= .ok (.enter fn args) w
 way:∀ (K V:Int) (W:World),0<=K->K<=3->0<=V->V<=99->Calls Tryz.prog fn #[.agg #[.int .i64 K, .int .i64 V]] W fun e w'=>e= .returned (.tuple #[.agg #[.int .i64 (wayM how (K,V)).1, .int .i64 (wayM how (K,V)).2], .bool (wayP how (K,V))])/\Below W.heap.size W w'
theorem way_is {how:Int} (hw:1<=how/\how<=7):∃ fn,WayIs how fn:=by
 obtain rfl|rfl|rfl|rfl|rfl|rfl|rfl:how=1\/how=2\/how=3\/how=4\/how=5\/how=6\/how=7:=by omega
 ·exact ⟨215,wayOf_1,enters_of Tryz.func215 (by kernel_rfl) rfl,fun K V W=>way1_any K V W⟩
 ·exact ⟨216,wayOf_2,enters_of Tryz.func216 (by kernel_rfl) rfl,fun K V W=>way2_any K V W⟩
 ·exact ⟨217,wayOf_3,enters_of Tryz.func217 (by kernel_rfl) rfl,fun K V W=>way3_any K V W⟩
 ·exact ⟨218,wayOf_4,enters_of Tryz.func218 (by kernel_rfl) rfl,fun K V W=>way4_any K V W⟩
 ·exact ⟨219,wayOf_5,enters_of Tryz.func219 (by kernel_rfl) rfl,fun K V W=>way5_any K V W⟩
 ·exact ⟨220,wayOf_6,enters_of Tryz.func220 (by kernel_rfl) rfl,fun K V W=>way6_any K V W⟩
 ·exact ⟨221,wayOf_7,enters_of Tryz.func221 (by kernel_rfl) rfl,fun K V W=>way7_any K V W⟩
theorem rowsMade_in {a b:List Rw} {n:Int} (hn:n=0\/n=1) {w:World} {iv kv:Value} (hi:LyR w iv [a,b]) (hal:a.length<=400) (hbl:b.length<=400) (hkv:∃ x m c,kv= .slice x m c) :
  Calls Tryz.prog 100 #[.iface 172 (.int .i64 n),iv,kv] w fun e w'=>∃ o:Value,e= .returned (.tuple #[o, .nilIface])/\OwnR w' w.heap.size o (if n=0 then a else b)/\Below w.heap.size w w':=by
 obtain ⟨g,off,cap,ad,cp,ad',cp',rfl,hg,c0,c1,R0,R1,hcap,hmax⟩:=hi.two;obtain ⟨x,m,c,rfl⟩:=hkv;have ta1:=ta11 n
 rcases hn with rfl|rfl
 ·have o0:Hid (OwnR w w.heap.size (.slice none 0 0) []):=oN _ _ _ _ _;go_enter Tryz.func100,Tryz.ntmps100
  go_wp2_with (at_builtin;refine appRs _ rfl _ _ rfl w.heap.size _ [] rfl o0.out _ a rfl R0 (by simp;omega) (by omega) ?_;intro v3 w3 own3 hg3)
  have hb3:Below w.heap.size w w3:=Below.grew (Below.refl _ _) hg3 (by omega) (oB o0.out);refine bodyPost_ret (v:= .tuple #[_, .nilIface]) (by simp [results,Tryz.results100,go_sem];try rfl) rfl ?_;exact ⟨_,rfl,by simpa using own3,hb3⟩
 ·have o0:Hid (OwnR w w.heap.size (.slice none 0 0) []):=oN _ _ _ _ _;go_enter Tryz.func100,Tryz.ntmps100
  go_wp2_with (at_builtin;refine appRs _ rfl _ _ rfl w.heap.size _ [] rfl o0.out _ b rfl R1 (by simp;omega) (by omega) ?_;intro v3 w3 own3 hg3)
  have hb3:Below w.heap.size w w3:=Below.grew (Below.refl _ _) hg3 (by omega) (oB o0.out);refine bodyPost_ret (v:= .tuple #[_, .nilIface]) (by simp [results,Tryz.results100,go_sem];try rfl) rfl ?_;exact ⟨_,rfl,by simpa using own3,hb3⟩
theorem rowsMade_each {x:List Rw} {n:Int} (hn:1<=n/\n<=7) (hx:rokB x=true) {w:World} {iv kv:Value} (hi:∃ x m c,iv= .slice x m c) (hk:LyR w kv [x]) :
  Calls Tryz.prog 100 #[.iface 173 (.int .i64 n),iv,kv] w fun e w'=>∃ o:Value,e= .returned (.tuple #[o, .nilIface])/\OwnR w' w.heap.size o (sumL ltS (eachR n x))/\Below w.heap.size w w':=by
 obtain ⟨fn,H⟩:=way_is hn;have HOF:=(show Hid _ from H.of);have HEA:=(show Hid _ from fun v W hR=>eachRows_any fn n v x W hR hx H.eg H.way);have hel:=eachR_len n x;have hea:=eachR_abs n x;have hrl:=rLz hx;have hra:=rok_absF hx;have HSP:Hid (∀ r∈eachR n x,spOk r.1):=eachR_sp hx;obtain ⟨g,off,cap,ad,cp,rfl,hg,c0,R0,hcap,hmax⟩:=hk.one;obtain ⟨i1,i2,i3,rfl⟩:=hi;have C0:=(show Hid _ from c0);have ta1:=ta21 n;have ta2:=ta22 n;clear H c0;go_enter Tryz.func100,Tryz.ntmps100;go_wp2_with fail;refine (HOF.out _).mono ?_;rintro e w1 ⟨rfl,hb1⟩;have d0:=cB hb1 C0.out;go_wp2_with fail;refine (HEA.out _ w1 (R0.keep hb1)).mono ?_;rintro e w2 ⟨o2,rfl,own2,hb2⟩;have R2:=OwnR.rs own2 (by omega);have hbw2:=bSz hb1 hb2;clear own2 HEA HOF;go_wp2_with fail;refine (sumUp_any _ _ _ R2 (by omega) (by omega) HSP.out).mono ?_;rintro e w3 ⟨o3,rfl,own3,hb3⟩;have O3:=(show Hid (OwnR w3 w2.heap.size o3 (sumL ltS (eachR n x))) from own3);have hs:=hbw2.size;clear own3;go_wp2_with fail;refine bodyPost_ret (v:= .tuple #[_, .nilIface]) (by simp [results,Tryz.results100,go_sem];try rfl) rfl ?_;exact ⟨_,rfl,oLz O3.out hs,bSz hbw2 hb3⟩
theorem rowsMade_both {x y:List Rw} {n:Int} (hx:rokB x=true) (hy:rokB y=true) {w:World} {iv kv:Value} (hi:∃ x m c,iv= .slice x m c) (hk:LyR w kv [x,y]) :
  Calls Tryz.prog 100 #[.iface 175 (.int .i64 n),iv,kv] w fun e w'=>∃ o:Value,e= .returned (.tuple #[o, .nilIface])/\OwnR w' w.heap.size o (sumL ltS (x++y))/\Below w.heap.size w w':=by
 have hrl:=rLz hx;have hrl':=rLz hy;have hab:=both_abs hx hy;have HSP:Hid (∀ r∈x++y,spOk r.1):=both_sp hx hy;have hll:(x++y).length<=1000000:=by rw [List.length_append];omega
 obtain ⟨g,off,cap,ad,cp,ad',cp',rfl,hg,c0,c1,R0,R1,hcap,hmax⟩:=hk.two;obtain ⟨i1,i2,i3,rfl⟩:=hi;have HC:=(show Hid _ from concat_at g off cap _ _ x y w c0 c1 R0 R1 (by omega));have ta1:=ta31 n;have ta2:=ta32 n;have ta3:=ta33 n;clear c0 c1 R0 R1;go_enter Tryz.func100,Tryz.ntmps100;go_wp2_with fail;refine Calls.mono HC.out ?_;rintro e w2 ⟨o2,rfl,own2,hbw2⟩;have R2:=OwnR.rs own2 (by omega);clear own2 HC;go_wp2_with fail;refine (sumUp_any _ _ _ R2 hll (by omega) HSP.out).mono ?_;rintro e w3 ⟨o3,rfl,own3,hb3⟩;have O3:=(show Hid (OwnR w3 w2.heap.size o3 (sumL ltS (x++y))) from own3);have hs:=hbw2.size;clear own3;go_wp2_with fail;refine bodyPost_ret (v:= .tuple #[_, .nilIface]) (by simp [results,Tryz.results100,go_sem];try rfl) rfl ?_;exact ⟨_,rfl,oLz O3.out hs,bSz hbw2 hb3⟩
theorem rowsMade_less {x:List Rw} {n:Int} {w:World} {iv kv:Value} (hi:∃ x m c,iv= .slice x m c) (hk:LyR w kv [x]) :
  Calls Tryz.prog 100 #[.iface 177 (.int .i64 n),iv,kv] w fun e w'=>∃ o:Value,e= .returned (.tuple #[o, .nilIface])/\OwnR w' w.heap.size o (lessL x)/\Below w.heap.size w w':=by
 obtain ⟨g,off,cap,ad,cp,rfl,hg,c0,R0,hcap,hmax⟩:=hk.one;obtain ⟨i1,i2,i3,rfl⟩:=hi;have ta1:=ta41 n;have ta2:=ta42 n;have ta3:=ta43 n;have ta4:=ta44 n;go_enter Tryz.func100,Tryz.ntmps100;go_wp2_with fail;refine (implLess2_any _ x w R0).mono ?_;rintro e w3 ⟨o3,rfl,own3,hb3⟩;have O3:=(show Hid (OwnR w3 w.heap.size o3 (lessL x)) from own3);clear own3;go_wp2_with fail;refine bodyPost_ret (v:= .tuple #[_, .nilIface]) (by simp [results,Tryz.results100,go_sem];try rfl) rfl ?_;exact ⟨_,rfl,O3.out,hb3⟩
theorem rowsMade_join {x y:List Rw} {n:Int} (hx:rokB x=true) (hy:rokB y=true) {w:World} {iv kv:Value} (hi:∃ x m c,iv= .slice x m c) (hk:LyR w kv [x,y]) :
  Calls Tryz.prog 100 #[.iface 178 (.int .i64 n),iv,kv] w fun e w'=>∃ o:Value,e= .returned (.tuple #[o, .nilIface])/\OwnR w' w.heap.size o (sumL ltS (pairR x y))/\Below w.heap.size w w':=by
 obtain ⟨hpl,hpa⟩:=pairR_far hx hy;have HSP:Hid (∀ r∈pairR x y,spOk r.1):=pairR_sp hx hy;obtain ⟨g,off,cap,ad,cp,ad',cp',rfl,hg,c0,c1,R0,R1,hcap,hmax⟩:=hk.two;obtain ⟨i1,i2,i3,rfl⟩:=hi;have HX:Hid (∀ W,Below w.heap.size w W->W.cell? ⟨g,off,none⟩=some (.slice ad x.length cp)/\W.cell? ⟨g,off+1,none⟩=some (.slice ad' y.length cp')):=fun W hb=>⟨cB hb c0,cB hb c1⟩;have HR:Hid (∀ W,Below w.heap.size w W->Rs W (.slice ad x.length cp) x/\Rs W (.slice ad' y.length cp') y):=fun W hb=>⟨R0.keep hb,R1.keep hb⟩;have hcur:Below w.heap.size w w.drew:=(Below.refl _ _).drew;have ta1:=ta51 n;have ta2:=ta52 n;have ta3:=ta53 n;have ta4:=ta54 n;have ta5:=ta55 n;clear R0 R1;go_enter Tryz.func100,Tryz.ntmps100;go_wp2_with fail
 go_region_held3 (fun W=>W.cell? ⟨g,off,none⟩=some (.slice ad x.length cp)/\W.cell? ⟨g,off+1,none⟩=some (.slice ad' y.length cp'))
  (first|exact HX.out _ hcur|exact HX.out _ hc2|exact HX.out _ hc3)
  (first
   | (go_at_call 173;with_reducible refine (pairRows_any _ _ x y _ (HR.out _ hcur).1 (HR.out _ hcur).2 hx hy).mono ?_;rintro e w2 ⟨o2,rfl,own2,hb2⟩;have hc2:Below w.heap.size w w2:=bSz hcur hb2;have R2:=OwnR.rs own2 (Nat.le_trans hpl (by decide)))
   | (go_at_call 155;with_reducible refine (sumUp_any _ _ _ R2 (Nat.le_trans hpl (by decide)) hpa HSP.out).mono ?_;rintro e w3 ⟨o3,rfl,own3,hb3⟩;have hc3:Below w.heap.size w w3:=bSz hc2 hb3))
 all_goals
  have hs:=hc2.size;have O3:=(show Hid (OwnR w3 w2.heap.size o3 (sumL ltS (pairR x y))) from own3);clear own3;go_wp2_with fail;refine bodyPost_ret (v:= .tuple #[_, .nilIface]) (by simp [results,Tryz.results100,go_sem];try rfl) rfl ?_;exact ⟨_,rfl,oLz O3.out hs,hc3⟩
theorem rowsMade_sum {x:List Rw} {n:Int} (hn:inB n 1 3=true) (hx:rokB x=true) {w:World} {iv kv:Value} (hi:∃ x m c,iv= .slice x m c) (hk:LyR w kv [x]) :
  Calls Tryz.prog 100 #[.iface 180 (.int .i64 n),iv,kv] w fun e w'=>∃ o:Value,e= .returned (.tuple #[o, .nilIface])/\OwnR w' w.heap.size o (sumL ltS (fsumR n x))/\Below w.heap.size w w':=by
 obtain ⟨fn,H⟩:=sum_is hn;have HOF:=(show Hid _ from H.of);have HEA:=(show Hid _ from fun v W hR=>sumRows_any H v x W hR hx);have hfl:=fsumR_len n x;have hfa:=fsumR_abs n x;have HSP:Hid (∀ r∈fsumR n x,spOk r.1):=fsumR_sp;obtain ⟨g,off,cap,ad,cp,rfl,hg,c0,R0,hcap,hmax⟩:=hk.one;obtain ⟨i1,i2,i3,rfl⟩:=hi;have C0:=(show Hid _ from c0);have ta1:=ta61 n;have ta2:=ta62 n;have ta3:=ta63 n;have ta4:=ta64 n;have ta5:=ta65 n;have ta6:=ta66 n;clear H c0;go_enter Tryz.func100,Tryz.ntmps100;go_wp2_with fail;refine (HOF.out _).mono ?_;rintro e w1 ⟨rfl,hb1⟩;have d0:=cB hb1 C0.out;go_wp2_with fail;refine (HEA.out _ w1 (R0.keep hb1)).mono ?_;rintro e w2 ⟨o2,rfl,own2,hb2⟩;have R2:=OwnR.rs own2 (by omega);have hbw2:=bSz hb1 hb2;clear own2 HEA HOF;go_wp2_with fail;refine (sumUp_any _ _ _ R2 (by omega) (by omega) HSP.out).mono ?_;rintro e w3 ⟨o3,rfl,own3,hb3⟩;have O3:=(show Hid (OwnR w3 w2.heap.size o3 (sumL ltS (fsumR n x))) from own3);have hs:=hbw2.size;clear own3;go_wp2_with fail;refine bodyPost_ret (v:= .tuple #[_, .nilIface]) (by simp [results,Tryz.results100,go_sem];try rfl) rfl ?_;exact ⟨_,rfl,oLz O3.out hs,bSz hbw2 hb3⟩
theorem outR_len {a b:List Rw} {t:PT} {K:List (List Rw)} (hK:∀ l∈K,bokB l=true) (hal:a.length<=400) (hbl:b.length<=400):(outR a b t K).length<=1000000:=by
 have hg:∀ i,rokB (K.getD i [])=true:=fun i=>by
  rw [List.getD_eq_getElem?_getD];cases h:K[i]? with
  | none=>exact rok_nil
  | some l=>exact bRz (hK l (List.mem_of_getElem? h))
 have h0:=hg 0;have h1:=hg 1;unfold outR
 split
 ·split<;>omega
 ·generalize K.getD 0 []=x at *;generalize K.getD 1 []=y at *;have l0:=rLz h0;have l1:=rLz h1;unfold opR
  split
  ·have:=sumL_len ltS (eachR t.n x);have:=eachR_len t.n x;omega
  split
  ·have:=sumL_len ltS (x++y);rw [List.length_append] at this;omega
  split
  ·have:=rLz (bRz (lessL_bok x));omega
  split
  ·have:=sumL_len ltS (pairR x y);have:=(pairR_far h0 h1).1;omega
  ·have:=sumL_len ltS (fsumR t.n x);have:=fsumR_len t.n x;omega
theorem rowsMade_any {a b:List Rw} {t:PT} {K:List (List Rw)} {w:World} {iv kv:Value} (hh:hereB t=true) (hl:K.length=t.len) (hK:∀ l∈K,bokB l=true) (hal:a.length<=400) (hbl:b.length<=400) (hi:LyR w iv [a,b]) (hk:LyR w kv K) :
  Calls Tryz.prog 100 #[kiV t,iv,kv] w fun e w'=>∃ o:Value,e= .returned (.tuple #[o, .nilIface])/\OwnR w' w.heap.size o (outR a b t K)/\(outR a b t K).length<=1000000/\Below w.heap.size w w':=by
 have hlen:=outR_len (t:=t) hK hal hbl;obtain ⟨p1,p2,p3,p4⟩:=here_parts hh;have key:Calls Tryz.prog 100 #[kiV t,iv,kv] w fun e w'=>∃ o:Value,e= .returned (.tuple #[o, .nilIface])/\OwnR w' w.heap.size o (outR a b t K)/\Below w.heap.size w w':=by
  obtain ⟨ia,ic,hiv⟩:=hi.sl;obtain ⟨ka,kc,hkv⟩:=hk.sl;cases t with
  | n0 k n =>
   obtain rfl:=len0_k hh;simp [numLo,numHi,PT.k,PT.n] at p3 p4;exact rowsMade_in (n:=n) (by omega) hi hal hbl ⟨_,_,_,hkv⟩
  | n1 k n x =>
   obtain ⟨l,rfl⟩:∃ l,K=[l]:=by
    match K,hl with
    | [l],_=>exact ⟨l,rfl⟩
   have hb:=hK l (by simp);simp only [PT.k,PT.n,PT.len] at p1 p2 p3 p4;have hc:k=1\/k=2\/k=3\/k=4\/k=5\/k=6:=by omega
   rcases hc with rfl|rfl|rfl|rfl|rfl|rfl
   ·exact absurd p2 (by decide)
   ·exact rowsMade_each (by simp [numLo,numHi] at p3 p4;exact ⟨p3,p4⟩) (bRz hb) ⟨_,_,_,hiv⟩ hk
   ·exact absurd p2 (by decide)
   ·exact rowsMade_less ⟨_,_,_,hiv⟩ hk
   ·exact absurd p2 (by decide)
   ·exact rowsMade_sum (by simp [numLo,numHi] at p3 p4;simp [inB];exact ⟨p3,p4⟩) (bRz hb) ⟨_,_,_,hiv⟩ hk
  | n2 k n x y =>
   obtain ⟨l,m,rfl⟩:∃ l m,K=[l,m]:=by
    match K,hl with
    | [l,m],_=>exact ⟨l,m,rfl⟩
   have hb:=hK l (by simp);have hb':=hK m (by simp);simp only [PT.k,PT.n,PT.len] at p1 p2 p3 p4;have hc:k=1\/k=2\/k=3\/k=4\/k=5\/k=6:=by omega
   rcases hc with rfl|rfl|rfl|rfl|rfl|rfl
   ·exact absurd p2 (by decide)
   ·exact absurd p2 (by decide)
   ·exact rowsMade_both (bRz hb) (bRz hb') ⟨_,_,_,hiv⟩ hk
   ·exact absurd p2 (by decide)
   ·exact rowsMade_join (bRz hb) (bRz hb') ⟨_,_,_,hiv⟩ hk
   ·exact absurd p2 (by decide)
 refine key.mono ?_;rintro e w' ⟨o,rfl,h1,h2⟩;exact ⟨o,rfl,h1,hlen,h2⟩
theorem allOkR_any (v:Value) (K:List (List Rw)) (w:World) (h:LyR w v K) :
  Calls Tryz.prog 169 #[v, .func (.func 30) #[] #[]] w fun e w'=>e= .returned (.bool (K.all bokB))/\Below w.heap.size w w':=by
 have eg:=enters_of (P:=Tryz.prog) Tryz.func30 (by kernel_rfl) rfl;have HH:=(show Hid (LyR w v K) from h);obtain ⟨a,cap,rfl,hc,hm,hn,-⟩:=h.open;unfold maxLen at hm;clear h;go_enter Tryz.func169,Tryz.ntmps169;go_wp2_with fail
 go_loopw [9] (fun i wr=>∃ k:Nat,k<=K.length/\i= .int .i64 k/\(K.take k).all bokB=true/\Below w.heap.size w wr) (fun i _=>K.length-(intOf i).toNat)
 case atStart=>exact ⟨0,by omega,rfl,by simp,Below.refl _ _⟩
 case round =>
  obtain ⟨k,hkl,rfl,hall,hb⟩:=hrel;have HA:=(show Hid ((K.take k).all bokB=true) from hall);clear hall
  by_cases hlt:k<K.length
  ·obtain ⟨l,hl⟩:∃ l,K[k]?=some l:=⟨_,List.getElem?_eq_getElem hlt⟩;obtain ⟨a',cap',e',-,-,-,hcell⟩:=(HH.out.keep hb).open;cases e';obtain ⟨g,off,ad,cp,rfl,hg,c0,hR⟩:=hcell k l hl;have ik:((k:Int)<(K.length:Int)):=by omega
   have HL:=(show Hid (K[k]?=some l) from hl);clear hcell hl;go_wp2_with fail;refine (implBatchOk_any _ l wr hR).mono ?_;rintro e w1 ⟨rfl,hb1⟩;have hbw:=bSz hb hb1;cases ho:bokB l
   ·have HX:Hid (K.all bokB=false):=by
     show _=_
     rw [List.all_eq_false];exact ⟨l,List.mem_of_getElem? HL.out,by simp [ho]⟩
    go_wp2_with fail;go_ret;exact ⟨by rw [HX.out];rfl,hbw⟩
   ·have HX:Hid ((K.take (k+1)).all bokB=true):=by
     show _=_
     rw [tSz HL.out,List.all_append,HA.out];simp [ho]
    go_wp2_with fail;go_roundw
    case rel=>exact ⟨k+1,by omega,by go_num,HX.out,hbw⟩
    case measure=>simp [intOf];omega
  ·obtain rfl:k=K.length:=by omega
   rw [List.take_length] at HA;have ik:¬ ((K.length:Int)<(K.length:Int)):=by omega
   go_wp2_with fail;go_ret;exact ⟨by rw [HA.out];rfl,hb⟩
def MadeR (ea:Addr) (a b:List Rw) (t:PT) (w:World) (e:Ending) (w':World):Prop :=
 ((∃ o r,planR a b t=some r/\e= .returned (.tuple #[o, .nilIface])/\OwnR w' w.heap.size o r)\/(planR a b t=none/\e= .returned (.tuple #[.slice none 0 0,erV ea])))/\Below w.heap.size w w'
theorem okS_atR {p:Nat->Prop} {w:World} {t:PT} {a:Option Addr} {n c:Nat} (h:OkS p w t (.slice a n c)) {i:Nat} (hi:i<t.len) :
  ∃ g off sx,a=some ⟨g,off,none⟩/\g<w.heap.size/\w.cell? ⟨g,off+i*2,none⟩=some (kiV (t.kid i))/\w.cell? ⟨g,off+i*2+1,none⟩=some sx/\OkS p w (t.kid i) sx/\(∃ b m d,sx= .slice b m d):=by
 cases t with
 | n0 k n=>simp [PT.len] at hi
 | n1 k n x =>
  obtain ⟨g,c,sx,e,_,h1,h2,h3⟩:=h;obtain rfl:i=0:=by simp [PT.len] at hi;exact hi
  cases e;obtain ⟨b,d,e2⟩:=h3.sl;exact ⟨g,0,sx,rfl,lC h1,by simpa [PT.kid] using h1,by simpa using h2,h3,_,_,_,e2⟩
 | n2 k n x y =>
  obtain ⟨g,c,sx,sy,e,_,h1,h2,h3,h4,h5,h6⟩:=h;cases e;cases i with
  | zero =>
   obtain ⟨b,d,e2⟩:=h5.sl;exact ⟨g,0,sx,rfl,lC h1,by simpa [PT.kid] using h1,by simpa using h2,h5,_,_,_,e2⟩
  | succ i =>
   obtain rfl:i=0:=by simp [PT.len] at hi;omega
   obtain ⟨b,d,e2⟩:=h6.sl;exact ⟨g,0,sy,rfl,lC h1,by simpa [PT.kid] using h3,by simpa using h4,h6,_,_,_,e2⟩
theorem okS_keepR {p:Nat->Prop} {w w':World} (hb:Below w.heap.size w w') {t:PT} {s:Value} (h:OkS p w t s):OkS p w' t s:=h.move fun g hg hl=>⟨hg,hb.block g hl⟩
theorem madeByR_step (ea:Addr) {a b:List Rw} (hal:a.length<=400) (hbl:b.length<=400) {t:PT} {p:Nat->Prop} {s iv:Value} {w:World} (hh:hereB t=true) (hfi:FineR a b t) (hs:OkS p w t s) (hi:LyR w iv [a,b]) (hg:w.cell? ⟨0,0,none⟩=some (erV ea))
  (hrec:∀ i,i<t.len->∀ (W:World) (s':Value),OkS p W (t.kid i) s'->LyR W iv [a,b]->W.cell? ⟨0,0,none⟩=some (erV ea)->Calls Tryz.prog 170 #[.agg #[kiV (t.kid i),s'],iv, .func (.func 30) #[] #[], .func (.func 100) #[] #[]] W (MadeR ea a b (t.kid i) W)) :
  Calls Tryz.prog 170 #[.agg #[kiV t,s],iv, .func (.func 30) #[] #[], .func (.func 100) #[] #[]] w (MadeR ea a b t w):=by
 have eg:=enters_of (P:=Tryz.prog) Tryz.func30 (by kernel_rfl) rfl;have eg1:=enters_of (P:=Tryz.prog) Tryz.func100 (by kernel_rfl) rfl;have HR:=(show Hid _ from hrec);have HH:=(show Hid (hereB t=true) from hh);have HF:=(show Hid (FineR a b t) from hfi);have hb0:Below w.heap.size w (w.alloc (.cells #[kiV t,s] 161)):=bAz (Below.refl _ _) _;have bP:Bk (w.alloc (.cells #[kiV t,s] 161)) w.heap.size #[kiV t,s] 161:=Bk.new _ _ rfl;have HSL:=(show Hid (OkS p w t s) from hs);have HIV:=(show Hid (LyR w iv [a,b]) from hi);obtain ⟨sa,sc,rfl⟩:=hs.sl;obtain ⟨ig,ioff,icap,iad,icp,iad',icp',rfl,-⟩:=hi.two;have htl:=PT.len_le t;obtain ⟨x0,x1,_,_⟩:=bP.two;clear hs hi hrec hh hfi;go_enter Tryz.func170,Tryz.ntmps170;go_wp2_with fail;generalize w.alloc (.cells #[kiV t, .slice sa t.len sc] 161)=W0 at *;clear x0 x1
 go_loopw [10,20] (fun o i wr=>∃ (k:Nat) (vs:List Value) (K:List (List Rw)),k<=t.len/\i= .int .i64 k/\K.length=k/\OwnVR wr (w.heap.size+1) o vs/\EoR wr (w.heap.size+1) vs K/\(∀ j l,K[j]?=some l->planR a b (t.kid j)=some l)/\Bk wr w.heap.size #[kiV t, .slice sa t.len sc] 161/\Below w.heap.size w wr) (fun _ i _=>t.len-(intOf i).toNat)
 case atStart=>exact ⟨0,[],[],by omega,rfl,rfl,oN _ _ _ _ _,EoR.nil _ _,fun j l h=>by simp at h,bP,hb0⟩
 case round =>
  clear hb0 bP;obtain ⟨k,vs,K,hkl,rfl,hKl,hown,heo,hpl,bP,hb⟩:=hrel;have HO:=(show Hid (OwnVR wr (w.heap.size+1) u10 vs) from hown);have HE:=(show Hid (EoR wr (w.heap.size+1) vs K) from heo);have HP:=(show Hid _ from hpl);have HV:Hid (vs.length=k):=by show _=_;rw [heo.1,hKl]
  have hsz:=hb.size;have hbl2:=bP.lt;clear hown heo hpl
  by_cases hlt:k<t.len
  ·have ik:((k:Int)<(t.len:Int)):=by omega
   have hk1:=okS_keepR hb HSL.out;obtain ⟨g,off,sx,rfl,hgl,c0,c1,hkid,b2,m2,d2,rfl⟩:=okS_atR hk1 hlt;have bx:=Bk.new (w:=wr) #[kiV (t.kid k), .slice b2 m2 d2] 161 rfl;have hbx:Below wr.heap.size wr (wr.alloc (.cells #[kiV (t.kid k), .slice b2 m2 d2] 161)):=bAz (Below.refl _ _) _;have hbw5:=bSz hb hbx;have HC6:=(show Hid _ from HR.out k hlt _ _ (okS_keepR hbx hkid) (HIV.out.keep hbw5) (cB hbw5 hg));obtain ⟨q0,q1,_,_⟩:=bx.two;clear hk1 hkid bx;go_wp2_with fail;refine Calls.mono HC6.out ?_;rintro e w7 ⟨hor,hb7⟩;have hb70:Below wr.heap.size wr w7:=bSz hbx hb7;have hbw7:=bSz hbw5 hb7;have hsz7:=hb70.size;have hsA:(wr.alloc (.cells #[kiV (t.kid k), .slice b2 m2 d2] 161)).heap.size=wr.heap.size+1:=by simp
   rw [hsA] at hor;clear HC6 q0 q1 hbx hbw5 hb7 c0 c1 hsA
   rcases hor with ⟨o7,r7,hp7,rfl,own7⟩|⟨hp7,rfl⟩
   ·have hrl:r7.length<=400:=planR_len hp7;obtain ⟨a7,c7,e7,-⟩:=Rs.open (OwnR.rs own7 (by omega));subst e7;have bn:Bk (w7.alloc (.cells #[.slice a7 r7.length c7] 28)) w7.heap.size #[.slice a7 r7.length c7] 28:=Bk.new _ _ rfl;have hbn:Below w7.heap.size w7 (w7.alloc (.cells #[.slice a7 r7.length c7] 28)):=bAz (Below.refl _ _) _;have hbn2:=bSz hb70 hbn;have HO8:=(show Hid (OwnVR (w7.alloc (.cells #[.slice a7 r7.length c7] 28)) (w.heap.size+1) u10 vs) from oK HO.out hbn2);have HE8:=(show Hid (EoR (w7.alloc (.cells #[.slice a7 r7.length c7] 28)) (w.heap.size+1) (vs++[.slice a7 r7.length c7]) (K++[r7])) from (HE.out.keep hbn2).snoc (oK (oLz own7 (by omega)) hbn) (by omega));have HP8:Hid (∀ j l,(K++[r7])[j]?=some l->planR a b (t.kid j)=some l):=fun j l hj=>by
     rcases Nat.lt_or_ge j K.length with h|h
     ·rw [List.getElem?_append_left h] at hj;exact HP.out j l hj
     ·rw [List.getElem?_append_right h] at hj;have:j=k:=by
       have:=(List.getElem?_eq_some_iff.1 hj).1;simp at this;omega
      subst this;rw [hKl,Nat.sub_self] at hj;cases hj;exact hp7
    have bP8:=bP.keep hbn2;have HB8:=(show Hid _ from bSz hbw7 hbn);have hz8:(w7.alloc (.cells #[.slice a7 r7.length c7] 28)).heap.size=w7.heap.size+1:=by simp
    clear own7 hbn hbn2 HO HE HP bP
    go_wp2_with (at_builtin;go_must (refine appVR _ rfl _ _ rfl (w.heap.size+1) _ vs rfl HO8.out _ _ _ _ rfl bn (by have:=HV.out;omega) (by simp;omega) ?_);intro g9 cap9 w9 own9 hg9 hlg)
    have hbw9:Below w.heap.size w w9:=Below.grew HB8.out hg9 (by rw [hz8];omega) (fun q e=>by have:=oB HO8.out q e;omega);have bP9:Bk w9 w.heap.size #[kiV t, .slice (some ⟨g,off,none⟩) t.len sc] 161:=Bk.grew bP8 hg9 (fun q e=>by have:=oB HO8.out q e;omega);refine ⟨⟨k+1,_,_,by omega,by go_num,by simp [hKl],own9,HE8.out.grew HO8.out hg9,HP8.out,bP9,hbw9⟩,?_⟩;simp [intOf];omega
   ·have HX:Hid (planR a b t=none):=planR_none hlt hp7;go_wp2_with fail;refine bodyPost_ret (v:= .tuple #[.slice none 0 0,erV ea]) (by simp [results,Tryz.results170,go_sem];try rfl) rfl ?_;exact ⟨.inr ⟨HX.out,rfl⟩,hbw7⟩
  ·obtain rfl:k=t.len:=by omega
   have ik:¬ ((t.len:Int)<(t.len:Int)):=by omega
   have HKO:Hid (planR a b t=fitO (outR a b t K)):=planR_of HH.out hKl HP.out;have LK:=HE.out.ly HO.out (by have:=HV.out;omega);have hK:∀ l∈K,bokB l=true:=fun l hl=>by
    obtain ⟨j,hj⟩:=List.getElem?_of_mem hl;exact planR_bok (HP.out j l hj)
   have HM:=(show Hid _ from rowsMade_any HH.out hKl hK hal hbl (HIV.out.keep hb) LK);have hg1:=cB hb hg;obtain ⟨ka,kc,ekv⟩:=LK.sl;subst ekv;obtain ⟨y0,y1,_,_⟩:=bP.two;clear LK HO HE HP hK hKl;go_wp2_with fail;refine Calls.mono HM.out ?_;rintro e w8 ⟨o8,rfl,own8,hol,hb8⟩;have hbw8:=bSz hb hb8;have R8:=OwnR.rs own8 (by omega);obtain ⟨a8,c8,e8,-⟩:=Rs.open R8;subst e8;have HO8:=(show Hid (OwnR w8 w.heap.size _ _) from oLz own8 hsz);clear own8 HM y0 y1;generalize outR a b t K=O at *;go_wp2_with fail;refine (implBatchOk_any _ _ w8 R8).mono ?_;rintro e w9 ⟨rfl,hb9⟩;have hbw9:=bSz hbw8 hb9;cases ho:bokB O
   ·have HX:Hid (planR a b t=none):=by show _=_;rw [HKO.out,fitO_no ho]
    have hg9:=cB hbw9 hg;go_wp2_with fail
    go_quiet (fail)
    have hg10:=cB (bDz hbw9 nq) hg;go_wp2_with fail;refine bodyPost_ret (v:= .tuple #[.slice none 0 0,erV ea]) (by simp [results,Tryz.results170,go_sem];try rfl) rfl ?_;exact ⟨.inr ⟨HX.out,rfl⟩,bDz hbw9 _⟩
   ·have HX:Hid (planR a b t=some O):=by show _=_;rw [HKO.out,fitO_yes ho]
    go_wp2_with fail;refine bodyPost_ret (v:= .tuple #[.slice a8 O.length c8, .nilIface]) (by simp [results,Tryz.results170,go_sem];try rfl) rfl ?_;exact ⟨.inl ⟨_,_,HX.out,rfl,oK HO8.out hb9⟩,hbw9⟩
theorem madeByR_any (ea:Addr) {a b:List Rw} (hal:a.length<=400) (hbl:b.length<=400) {p:Nat->Prop} {iv:Value}:∀ (d:Nat) (t:PT) {s:Value} {w:World},pokB t d=true->FineR a b t->OkS p w t s->LyR w iv [a,b]->w.cell? ⟨0,0,none⟩=some (erV ea) ->
  Calls Tryz.prog 170 #[.agg #[kiV t,s],iv, .func (.func 30) #[] #[], .func (.func 100) #[] #[]] w (MadeR ea a b t w):=by
 intro d
 induction d with
 | zero=>intro t s w hp;rw [pok_zero] at hp;cases hp
 | succ d ih =>
  intro t s w hp hf hs hi hg;obtain ⟨hh,hk⟩:=pok_parts hp;exact madeByR_step ea hal hbl hh hf hs hi hg fun i hi' W s' hs' hiv hg'=>ih (t.kid i) (hk i hi') (fineR_kid hf hi') hs' hiv hg'
theorem plannedR_any (ea:Addr) {t:PT} {B:Nat} {s iv:Value} {K:List (List Rw)} {w:World} (hsm:t.sm) (hs:KdS B w t s) (hi:LyR w iv K) (hg:w.cell? ⟨0,0,none⟩=some (erV ea)) (hfi:∀ a b,K=[a,b]->pokB t 4=true->bokB a=true->bokB b=true->FineR a b t) :
  Calls Tryz.prog 99 #[pl t.k t.n s,iv, .func (.func 30) #[] #[], .func (.func 100) #[] #[]] w fun e w'=>∃ o:Value,e= .returned (.tuple #[o, .bool (flowR t K).isSome])/\OwnR w' w.heap.size o ((flowR t K).getD [])/\Below w.heap.size w w':=by
 have bP:Bk (w.alloc (.cells #[.int .i64 t.k, .int .i64 t.n,s] 25)) w.heap.size #[.int .i64 t.k, .int .i64 t.n,s] 25:=Bk.new _ _ rfl;have hb0:Below w.heap.size w (w.alloc (.cells #[.int .i64 t.k, .int .i64 t.n,s] 25)):=bAz (Below.refl _ _) _;obtain ⟨x0,x1,x2⟩:=bP.three';have HC:=(show Hid _ from okPlan_any ea 4 t 1 (by omega) (by omega) hsm (hs.keep hb0) (cB hb0 hg));have HI:=(show Hid (LyR w iv K) from hi);have HF:=(show Hid _ from hfi);obtain ⟨a,c,rfl⟩:=hs.sl;obtain ⟨ia,ic,rfl⟩:=hi.sl;clear hs hsm bP hi hfi;go_enter Tryz.func99,Tryz.ntmps99;go_wp2_with fail;refine Calls.mono HC.out ?_;rintro e w1 ⟨hor,hb1⟩;have hbw:=bSz hb0 hb1;clear HC x0 x1 x2
 rcases hor with ⟨hp,a3,n3,c3,rfl,hok⟩|⟨hp,rfl⟩
 ·have hb2:=bAz hbw (.cells #[kiV t, .slice a3 n3 c3] 161);have bO:Bk (w1.alloc (.cells #[kiV t, .slice a3 n3 c3] 161)) w1.heap.size #[kiV t, .slice a3 n3 c3] 161:=Bk.new _ _ rfl;have hok2:=(show Hid _ from okS_keepR (bAz (Below.refl w1.heap.size w1) (.cells #[kiV t, .slice a3 n3 c3] 161)) hok);have hg2:=cB hb2 hg;have HP:=(show Hid (pokB t 4=true) from hp);clear hok hb1 hbw hp hb0
  by_cases h2:K.length=2
  ·have ik:((K.length:Int)==2)=true:=by simp;omega
   have ik2:(K.length:Int)=2:=by omega
   have h2':=(show Hid (K.length=2) from h2);clear h2;go_wp2_with fail;refine (is_nil _ _).mono ?_;rintro e w2 ⟨rfl,rfl⟩;go_wp2_with fail;refine (allOkR_any _ K _ (HI.out.keep hb2)).mono ?_;rintro e w4 ⟨rfl,hb4⟩;have hbw4:=bSz hb2 hb4;cases hall:K.all bokB
   ·have HX:Hid (flowR t K=none):=flowR_no3 hall;go_wp2_with fail;refine bodyPost_ret (v:= .tuple #[.slice none 0 0, .bool false]) (by simp [results,Tryz.results99,go_sem];try rfl) rfl ?_;exact ⟨_,by rw [HX.out];rfl,by rw [HX.out];exact oN _ _ _ _ _,hbw4⟩
   ·obtain ⟨la,lb,hK⟩:=two_of h2'.out;have hab:bokB la=true/\bokB lb=true:=by rw [hK] at hall;simpa using hall
    have HX:Hid (flowR t K=planR la lb t):=by show _=_;rw [hK];exact flowR_two HP.out hab.1 hab.2
    have HM:=(show Hid _ from madeByR_any ea (bokR_len hab.1) (bokR_len hab.2) 4 t HP.out (HF.out la lb hK HP.out hab.1 hab.2) (okS_keepR hb4 hok2.out) (by rw [<- hK];exact HI.out.keep hbw4) (cB hbw4 hg));have bO4:=bO.keep hb4;obtain ⟨y0,y1,_,_⟩:=bO4.two;clear hok2 HF hK hab bO bO4;go_wp2_with fail;refine Calls.mono HM.out ?_;rintro e w5 ⟨hor,hb5⟩;have hbw5:=bSz hbw4 hb5;have hs4:=hbw4.size;have hg5:=cB hbw5 hg;clear HM
    rcases hor with ⟨o5,r5,hp5,rfl,own5⟩|⟨hp5,rfl⟩
    ·have O5:=(show Hid (OwnR w5 w.heap.size o5 r5) from oLz own5 hs4);have HY:=(show Hid (planR la lb t=some r5) from hp5);clear own5 hp5;go_wp2_with fail;refine (is_nil _ _).mono ?_;rintro e w6 ⟨rfl,rfl⟩;go_wp2_with fail;refine bodyPost_ret (v:= .tuple #[o5, .bool true]) (by simp [results,Tryz.results99,go_sem];try rfl) rfl ?_;exact ⟨_,by rw [HX.out,HY.out];rfl,by rw [HX.out,HY.out];exact O5.out,hbw5⟩
    ·have HY:=(show Hid (planR la lb t=none) from hp5);clear hp5;go_wp2_with fail;refine (is_same _ _).mono ?_;rintro e w6 ⟨rfl,rfl⟩;go_wp2_with fail;refine bodyPost_ret (v:= .tuple #[.slice none 0 0, .bool false]) (by simp [results,Tryz.results99,go_sem];try rfl) rfl ?_;exact ⟨_,by rw [HX.out,HY.out];rfl,by rw [HX.out,HY.out];exact oN _ _ _ _ _,hbw5⟩
  ·have ik:((K.length:Int)==2)=false:=by simp;omega
   have HX:Hid (flowR t K=none):=flowR_no2 h2;go_wp2_with fail;refine (is_nil _ _).mono ?_;rintro e w2 ⟨rfl,rfl⟩;go_wp2_with fail;refine bodyPost_ret (v:= .tuple #[.slice none 0 0, .bool false]) (by simp [results,Tryz.results99,go_sem];try rfl) rfl ?_;exact ⟨_,by rw [HX.out];rfl,by rw [HX.out];exact oN _ _ _ _ _,hb2⟩
 ·have hb2:=bAz hbw (.cells #[.nilIface, .slice none 0 0] 161);have hg2:=cB hb2 hg;have HX:Hid (flowR t K=none):=flowR_no1 hp;go_wp2_with fail;refine (is_same _ _).mono ?_;rintro e w2 ⟨rfl,rfl⟩;go_wp2_with fail;refine bodyPost_ret (v:= .tuple #[.slice none 0 0, .bool false]) (by simp [results,Tryz.results99,go_sem];try rfl) rfl ?_;exact ⟨_,by rw [HX.out];rfl,by rw [HX.out];exact oN _ _ _ _ _,hb2⟩
theorem implPlanFlow_any (ea:Addr) {t:PT} {B:Nat} {s iv:Value} {K:List (List Rw)} {w:World} (hsm:t.sm) (hs:KdS B w t s) (hi:LyR w iv K) (hg:w.cell? ⟨0,0,none⟩=some (erV ea)) (hfi:∀ a b,K=[a,b]->pokB t 4=true->bokB a=true->bokB b=true->FineR a b t) :
  Calls Tryz.prog 36 #[pl t.k t.n s,iv] w fun e w'=>∃ o:Value,e= .returned (.tuple #[o, .bool (flowR t K).isSome])/\OwnR w' w.heap.size o ((flowR t K).getD [])/\Below w.heap.size w w':=by
 have bP:Bk (w.alloc (.cells #[.int .i64 t.k, .int .i64 t.n,s] 25)) w.heap.size #[.int .i64 t.k, .int .i64 t.n,s] 25:=Bk.new _ _ rfl;have hb0:Below w.heap.size w (w.alloc (.cells #[.int .i64 t.k, .int .i64 t.n,s] 25)):=bAz (Below.refl _ _) _;obtain ⟨x0,x1,x2⟩:=bP.three';have HM:=(show Hid _ from plannedR_any ea hsm (hs.keep hb0) (hi.keep hb0) (cB hb0 hg) hfi);obtain ⟨a,c,rfl⟩:=hs.sl;obtain ⟨ia,ic,rfl⟩:=hi.sl;clear hs hi hsm hfi bP;go_enter Tryz.func36,Tryz.ntmps36;go_wp2_with fail;refine Calls.mono HM.out ?_;rintro e w1 ⟨o,rfl,own1,hb1⟩;have hs0:=hb0.size;have O1:=(show Hid (OwnR w1 w.heap.size o ((flowR t K).getD [])) from oLz own1 hs0);clear own1 HM x0 x1 x2;go_wp2_with fail;refine bodyPost_ret (v:= .tuple #[o, .bool (flowR t K).isSome]) (by simp [results,Tryz.results36,go_sem];try rfl) rfl ?_;exact ⟨_,rfl,O1.out,bSz hb0 hb1⟩
def RawR (a b:List Rw) (t:PT) (w:World) (e:Ending) (w':World):Prop :=
 ((∃ o r,planR a b t=some r/\e= .returned (.tuple #[o, .bool true])/\OwnR w' w.heap.size o r)\/(planR a b t=none/\∃ x n c,e= .returned (.tuple #[.slice x n c, .bool false])))/\Below w.heap.size w w'
theorem rawR_step {a b:List Rw} (hal:a.length<=400) (hbl:b.length<=400) {t:PT} {B:Nat} {s iv:Value} {w:World} (hh:hereB t=true) (hfi:FineR a b t) (hs:KdS B w t s) (hi:LyR w iv [a,b])
  (hrec:∀ i,i<t.len->∀ (W:World) (s':Value),KdS B W (t.kid i) s'->LyR W iv [a,b]->Calls Tryz.prog 137 #[pl (t.kid i).k (t.kid i).n s',iv] W (RawR a b (t.kid i) W)) :
  Calls Tryz.prog 137 #[pl t.k t.n s,iv] w (RawR a b t w):=by
 have HR:=(show Hid _ from hrec);have HH:=(show Hid (hereB t=true) from hh);have HF:=(show Hid (FineR a b t) from hfi);have bP:Bk ((w.alloc (.cells #[.int .i64 t.k, .int .i64 t.n,s] 25)).alloc (.cells #[] 28)) w.heap.size #[.int .i64 t.k, .int .i64 t.n,s] 25:=(Bk.new _ _ rfl).alloc _;have oV:OwnVR ((w.alloc (.cells #[.int .i64 t.k, .int .i64 t.n,s] 25)).alloc (.cells #[] 28)) (w.heap.size+1) (.slice (some ⟨w.heap.size+1,0,none⟩) 0 0) []:=ownVR_empty _ (by simp);have hb0:Below w.heap.size w ((w.alloc (.cells #[.int .i64 t.k, .int .i64 t.n,s] 25)).alloc (.cells #[] 28)):=bAz (bAz (Below.refl _ _) _) _;have HSL:=(show Hid (KdS B w t s) from hs);have HIV:=(show Hid (LyR w iv [a,b]) from hi);obtain ⟨sa,sc,rfl⟩:=hs.sl;obtain ⟨ig,ioff,icap,iad,icp,iad',icp',rfl,hig,ic0,ic1,iR0,iR1,hicap,himax⟩:=hi.two;have IC:=(show Hid (w.cell? ⟨ig,ioff,none⟩=some (.slice iad a.length icp)/\w.cell? ⟨ig,ioff+1,none⟩=some (.slice iad' b.length icp')/\Rs w (.slice iad a.length icp) a/\Rs w (.slice iad' b.length icp') b) from ⟨ic0,ic1,iR0,iR1⟩);have htl:=PT.len_le t;clear hs hi hrec hh hfi ic0 ic1 iR0 iR1;go_enter Tryz.func137,Tryz.ntmps137;go_wp2_with fail;generalize ((w.alloc (.cells #[.int .i64 t.k, .int .i64 t.n, .slice sa t.len sc] 25)).alloc (.cells #[] 28))=W0 at *
 go_loopw [6,7] (fun o i wr=>∃ (k:Nat) (vs:List Value) (K:List (List Rw)),k<=t.len/\i= .int .i64 k/\K.length=k/\OwnVR wr (w.heap.size+1) o vs/\EoR wr (w.heap.size+1) vs K/\(∀ j l,K[j]?=some l->planR a b (t.kid j)=some l)/\Bk wr w.heap.size #[.int .i64 t.k, .int .i64 t.n, .slice sa t.len sc] 25/\Below w.heap.size w wr) (fun _ i _=>t.len-(intOf i).toNat)
 case atStart=>exact ⟨0,[],[],by omega,rfl,rfl,oV,EoR.nil _ _,fun j l h=>by simp at h,bP,hb0⟩
 case round =>
  clear hb0 bP oV;obtain ⟨k,vs,K,hkl,rfl,hKl,hown,heo,hpl,bP,hb⟩:=hrel;have HO:=(show Hid (OwnVR wr (w.heap.size+1) u6 vs) from hown);have HE:=(show Hid (EoR wr (w.heap.size+1) vs K) from heo);have HP:=(show Hid _ from hpl);have HV:Hid (vs.length=k):=by show _=_;rw [heo.1,hKl]
  have hsz:=hb.size;have hbl2:=bP.lt;obtain ⟨x0,x1,x2⟩:=bP.three';clear hown heo hpl
  by_cases hlt:k<t.len
  ·have ik:((k:Int)<(t.len:Int)):=by omega
   have hk1:=HSL.out.keep hb;obtain ⟨g,off,sx,rfl,hgl,c0,c1,c2,hkid,b2,m2,d2,rfl⟩:=hk1.at hlt;have HC6:=(show Hid _ from HR.out k hlt wr _ hkid (HIV.out.keep hb));clear hk1 hkid;go_wp2_with fail;refine Calls.mono HC6.out ?_;rintro e w7 ⟨hor,hb7⟩;have hbw7:=bSz hb hb7;have hsz7:=hb7.size;clear HC6 c0 c1 c2 x0 x1 x2
   rcases hor with ⟨o7,r7,hp7,rfl,own7⟩|⟨hp7,z1,z2,z3,rfl⟩
   ·have hrl:r7.length<=400:=planR_len hp7;obtain ⟨a7,c7,e7,-⟩:=Rs.open (OwnR.rs own7 (by omega));subst e7;have bn:Bk (w7.alloc (.cells #[.slice a7 r7.length c7] 28)) w7.heap.size #[.slice a7 r7.length c7] 28:=Bk.new _ _ rfl;have hbn:Below w7.heap.size w7 (w7.alloc (.cells #[.slice a7 r7.length c7] 28)):=bAz (Below.refl _ _) _;have hbn2:=bSz hb7 hbn;have HO8:=(show Hid (OwnVR (w7.alloc (.cells #[.slice a7 r7.length c7] 28)) (w.heap.size+1) u6 vs) from oK HO.out hbn2);have HE8:=(show Hid (EoR (w7.alloc (.cells #[.slice a7 r7.length c7] 28)) (w.heap.size+1) (vs++[.slice a7 r7.length c7]) (K++[r7])) from (HE.out.keep hbn2).snoc (oK (oLz own7 (by omega)) hbn) (by omega));have HP8:Hid (∀ j l,(K++[r7])[j]?=some l->planR a b (t.kid j)=some l):=fun j l hj=>by
     rcases Nat.lt_or_ge j K.length with h|h
     ·rw [List.getElem?_append_left h] at hj;exact HP.out j l hj
     ·rw [List.getElem?_append_right h] at hj;have:j=k:=by
       have:=(List.getElem?_eq_some_iff.1 hj).1;simp at this;omega
      subst this;rw [hKl,Nat.sub_self] at hj;cases hj;exact hp7
    have bP8:=bP.keep hbn2;have HB8:=(show Hid _ from bSz hbw7 hbn);have hz8:(w7.alloc (.cells #[.slice a7 r7.length c7] 28)).heap.size=w7.heap.size+1:=by simp
    clear own7 hbn hbn2 HO HE HP bP
    go_wp2_with (at_builtin;go_must (refine appVR _ rfl _ _ rfl (w.heap.size+1) _ vs rfl HO8.out _ _ _ _ rfl bn (by have:=HV.out;omega) (by simp;omega) ?_);intro g9 cap9 w9 own9 hg9 hlg)
    have hbw9:Below w.heap.size w w9:=Below.grew HB8.out hg9 (by rw [hz8];omega) (fun q e=>by have:=oB HO8.out q e;omega);have bP9:Bk w9 w.heap.size #[.int .i64 t.k, .int .i64 t.n, .slice (some ⟨g,off,none⟩) t.len sc] 25:=Bk.grew bP8 hg9 (fun q e=>by have:=oB HO8.out q e;omega);refine ⟨⟨k+1,_,_,by omega,by go_num,by simp [hKl],own9,HE8.out.grew HO8.out hg9,HP8.out,bP9,hbw9⟩,?_⟩;simp [intOf];omega
   ·have HX:Hid (planR a b t=none):=planR_none hlt hp7;go_wp2_with fail;refine bodyPost_ret (by simp [results,Tryz.results137,go_sem];try rfl) rfl ?_;exact ⟨.inr ⟨HX.out,_,_,_,rfl⟩,bAz hbw7 _⟩
  ·obtain rfl:k=t.len:=by omega
   have ik:¬ ((t.len:Int)<(t.len:Int)):=by omega
   have HKO:Hid (planR a b t=fitO (outR a b t K)):=planR_of HH.out hKl HP.out;have LK:=HE.out.ly HO.out (by have:=HV.out;omega);have hK0:∀ l∈K,bokB l=true:=fun l hl=>by
    obtain ⟨j,hj⟩:=List.getElem?_of_mem hl;exact planR_bok (HP.out j l hj)
   have hol:=outR_len (t:=t) hK0 hal hbl;obtain ⟨p1,p2,p3,p4⟩:=here_parts HH.out;have hs1:(wr.alloc (.cells #[] 55)).heap.size=wr.heap.size+1:=by simp
   have hbE:Below wr.heap.size wr (wr.alloc (.cells #[] 55)):=bAz (Below.refl _ _) _;have hbwE:=bSz hb hbE;have oE:=oEz wr rfl;clear HO HE HP HR HSL HIV HV x0 x1;have bPE:=bP.keep hbE;clear bP;have hkk:t.k=1\/t.k=2\/t.k=3\/t.k=4\/t.k=5\/t.k=6:=by omega
   rcases hkk with hk|hk|hk|hk|hk|hk
   ·rw [hk] at p3 p4 bPE;clear p2 hKl;simp [numLo,numHi] at p3 p4;have hn:t.n=0\/t.n=1:=by omega
    rcases hn with hn|hn
    ·have HOU:Hid (outR a b t K=a):=by show _=_;unfold outR;rw [if_pos hk,if_pos hn]
     rw [HOU.out] at hol;rw [hn] at bPE;obtain ⟨y0,y1,y2⟩:=bPE.three';have d0:=cB hbwE IC.out.1;have RA:=IC.out.2.2.1.keep hbwE
     go_wp2_with (at_builtin;refine appRs _ rfl _ _ rfl wr.heap.size _ [] rfl oE _ a rfl RA (by simp;omega) (by simp) ?_;intro v8 w8 own8 hg8)
     have hbw8:Below w.heap.size w w8:=Below.grew hbwE hg8 (by omega) (fun q e=>by have:=oB oE q e;omega);have own8:OwnR w8 w.heap.size v8 a:=by have:=oLz own8 hsz;simpa using this
     have R8:=OwnR.rs own8 (by omega);obtain ⟨a8,c8,e8,-⟩:=Rs.open R8;subst e8;have HO8:=(show Hid (OwnR w8 w.heap.size _ a) from own8);clear own8;refine (sB _ _ w8 R8).mono ?_;rintro e w9 ⟨rfl,hb9⟩;have hbw9:=bSz hbw8 hb9;cases ho:bokB a
     ·have HX:Hid (planR a b t=none):=by show _=_;rw [HKO.out,HOU.out,fitO_no ho]
      go_wp2_with fail;refine bodyPost_ret (v:= .tuple #[.slice a8 a.length c8, .bool false]) (by simp [results,Tryz.results137,go_sem];try rfl) rfl ?_;exact ⟨.inr ⟨HX.out,_,_,_,rfl⟩,hbw9⟩
     ·have HX:Hid (planR a b t=some a):=by show _=_;rw [HKO.out,HOU.out,fitO_yes ho]
      go_wp2_with fail;refine bodyPost_ret (v:= .tuple #[.slice a8 a.length c8, .bool true]) (by simp [results,Tryz.results137,go_sem];try rfl) rfl ?_;exact ⟨.inl ⟨_,_,HX.out,rfl,oK HO8.out hb9⟩,hbw9⟩
    ·have HOU:Hid (outR a b t K=b):=by show _=_;unfold outR;rw [if_pos hk,if_neg (by omega)]
     rw [HOU.out] at hol;rw [hn] at bPE;obtain ⟨y0,y1,y2⟩:=bPE.three';have d0:=cB hbwE IC.out.2.1;have RA:=IC.out.2.2.2.keep hbwE
     go_wp2_with (at_builtin;refine appRs _ rfl _ _ rfl wr.heap.size _ [] rfl oE _ b rfl RA (by simp;omega) (by simp) ?_;intro v8 w8 own8 hg8)
     have hbw8:Below w.heap.size w w8:=Below.grew hbwE hg8 (by omega) (fun q e=>by have:=oB oE q e;omega);have own8:OwnR w8 w.heap.size v8 b:=by have:=oLz own8 hsz;simpa using this
     have R8:=OwnR.rs own8 (by omega);obtain ⟨a8,c8,e8,-⟩:=Rs.open R8;subst e8;have HO8:=(show Hid (OwnR w8 w.heap.size _ b) from own8);clear own8;refine (sB _ _ w8 R8).mono ?_;rintro e w9 ⟨rfl,hb9⟩;have hbw9:=bSz hbw8 hb9;cases ho:bokB b
     ·have HX:Hid (planR a b t=none):=by show _=_;rw [HKO.out,HOU.out,fitO_no ho]
      go_wp2_with fail;refine bodyPost_ret (v:= .tuple #[.slice a8 b.length c8, .bool false]) (by simp [results,Tryz.results137,go_sem];try rfl) rfl ?_;exact ⟨.inr ⟨HX.out,_,_,_,rfl⟩,hbw9⟩
     ·have HX:Hid (planR a b t=some b):=by show _=_;rw [HKO.out,HOU.out,fitO_yes ho]
      go_wp2_with fail;refine bodyPost_ret (v:= .tuple #[.slice a8 b.length c8, .bool true]) (by simp [results,Tryz.results137,go_sem];try rfl) rfl ?_;exact ⟨.inl ⟨_,_,HX.out,rfl,oK HO8.out hb9⟩,hbw9⟩
   ·rw [hk] at p2 p3 p4 bPE;obtain ⟨x,rfl⟩:∃ x,K=[x]:=by
     have hx:K.length=1:=by
      have:kidN 2=1:=rfl;omega
     match K,hx with
     | [x],_=>exact ⟨x,rfl⟩
    clear p2 hKl;have HOU:Hid (outR a b t [x]=sumL ltS (eachR t.n x)):=by show _=_;unfold outR;rw [if_neg (by omega),hk];rfl
    rw [HOU.out] at hol;have hx:=hK0 x (by simp);have hrx:=bRz hx;have hw:inB t.n 1 7=true:=by simp [numLo,numHi] at p3 p4;simp [inB];exact ⟨p3,p4⟩
    obtain ⟨kg,koff,kcap,kad,kcp,rfl,hkg,kc0,kR0,hkcap,hkmax⟩:=LK.one;obtain ⟨y0,y1,y2⟩:=bPE.three';have d0:=cB hbE kc0;have hsE:=hbwE.size;have rE:=kR0.keep hbE;clear LK kc0 kR0;go_wp2_with fail;generalize (wr.alloc (.cells #[] 55))=WE at *;have HX:Hid (∀ W,Below WE.heap.size WE W->W.cell? ⟨kg,koff,none⟩=some (.slice kad x.length kcp)/\W.cell? ⟨w.heap.size,1,none⟩=some (.int .i64 t.n)):=fun W hW=>⟨cB hW d0,cB hW y1⟩;have hcur:Below WE.heap.size WE WE.drew:=(Below.refl _ _).drew;have rD:=rE.keep hcur
    go_region_held3 (fun W=>W.cell? ⟨kg,koff,none⟩=some (.slice kad x.length kcp)/\W.cell? ⟨w.heap.size,1,none⟩=some (.int .i64 t.n))
     (first|exact HX.out _ hcur|exact HX.out _ hc2)
     (first
      | (go_at_call 188;with_reducible refine (l11Each_any _ x _ _ rD hrx hw).mono ?_;rintro e w8 ⟨o8,rfl,own9,hb8⟩;have hc2:Below WE.heap.size WE w8:=bSz hcur hb8))
    have hbw8:Below w.heap.size w w8:=bSz hbwE hc2;have own8:OwnR w8 w.heap.size o8 (sumL ltS (eachR t.n x)):=oLz own9 (by simpa using hsE);clear own9 d0 y0 y1 y2;have R8:=OwnR.rs own8 (by omega);obtain ⟨a8,c8,e8,-⟩:=Rs.open R8;subst e8;have HO8:=(show Hid (OwnR w8 w.heap.size _ (sumL ltS (eachR t.n x))) from own8);clear own8;go_wp2_with fail;refine (sB _ _ w8 R8).mono ?_;rintro e w9 ⟨rfl,hb9⟩;have hbw9:=bSz hbw8 hb9;cases ho:bokB (sumL ltS (eachR t.n x))
    ·have HX:Hid (planR a b t=none):=by show _=_;rw [HKO.out,HOU.out,fitO_no ho]
     go_wp2_with fail;refine bodyPost_ret (v:= .tuple #[.slice a8 (sumL ltS (eachR t.n x)).length c8, .bool false]) (by simp [results,Tryz.results137,go_sem];try rfl) rfl ?_;exact ⟨.inr ⟨HX.out,_,_,_,rfl⟩,hbw9⟩
    ·have HX:Hid (planR a b t=some (sumL ltS (eachR t.n x))):=by show _=_;rw [HKO.out,HOU.out,fitO_yes ho]
     go_wp2_with fail;refine bodyPost_ret (v:= .tuple #[.slice a8 (sumL ltS (eachR t.n x)).length c8, .bool true]) (by simp [results,Tryz.results137,go_sem];try rfl) rfl ?_;exact ⟨.inl ⟨_,_,HX.out,rfl,oK HO8.out hb9⟩,hbw9⟩
   ·rw [hk] at p2 p3 p4 bPE;obtain ⟨x,y,rfl⟩:∃ x y,K=[x,y]:=by
     have hx:K.length=2:=by
      have:kidN 3=2:=rfl;omega
     exact two_of hx
    clear p2 hKl;have HOU:Hid (outR a b t [x,y]=sumL ltS (x++y)):=by show _=_;unfold outR;rw [if_neg (by omega),hk];rfl
    rw [HOU.out] at hol;have hx:=hK0 x (by simp);have hy:=hK0 y (by simp);have hrx:=bRz hx;have hry:=bRz hy;have hxl:=rLz hrx;have hyl:=rLz hry;have hxa:=both_abs hrx hry;obtain ⟨kg,koff,kcap,kad,kcp,kad',kcp',rfl,hkg,kc0,kc1,kR0,kR1,hkcap,hkmax⟩:=LK.two;obtain ⟨y0,y1,y2⟩:=bPE.three';have d0:=cB hbE kc0;have d1:=cB hbE kc1;have hsE:=hbwE.size;have rE:=kR0.keep hbE;have rE':=kR1.keep hbE;clear LK kc0 kc1 kR0 kR1;go_wp2_with fail;generalize (wr.alloc (.cells #[] 55))=WE at *;have HX:Hid (∀ W,Below WE.heap.size WE W->W.cell? ⟨kg,koff,none⟩=some (.slice kad x.length kcp)/\W.cell? ⟨kg,koff+1,none⟩=some (.slice kad' y.length kcp')):=fun W hW=>⟨cB hW d0,cB hW d1⟩;have hcur:Below WE.heap.size WE WE.drew:=(Below.refl _ _).drew;have hcA:Below WE.heap.size WE (WE.alloc (.cells #[] 55)).drew:=(bAz (Below.refl _ _) _).drew;have O0:OwnR (WE.alloc (.cells #[] 55)).drew WE.heap.size (.slice (some ⟨WE.heap.size,0,none⟩) 0 0) []:=oK (oEz WE rfl) (Below.refl _ _).drew;have rD:=rE.keep hcA;have hsA:=hcA.size;have HNA:Hid (∀ (W:World) (v:Value),OwnR W WE.heap.size v ([]++x)->OwnR W WE.heap.size v x):=fun W v h=>h
    go_region_held3 (fun W=>W.cell? ⟨kg,koff,none⟩=some (.slice kad x.length kcp)/\W.cell? ⟨kg,koff+1,none⟩=some (.slice kad' y.length kcp'))
     (first|exact HX.out _ hcur|exact HX.out _ hcA|exact HX.out _ hc4|exact HX.out _ hc5|exact HX.out _ hc2)
     (first
      | (refine stepRs _ (by rfl) _ _ (by rfl) WE.heap.size (.slice (some ⟨WE.heap.size,0,none⟩) 0 0) [] (by first|rfl|(simp [go_sem];done)) O0 _ x (by first|rfl|(simp [go_sem];done)) rD (by simp;omega) hsA ?_;intro v4 w4 own4 hg4;have hc4:Below WE.heap.size WE w4:=Below.grew hcA hg4 hsA (oB O0);have O4:=HNA.out _ _ own4;have rD':=rE'.keep hc4;have hs4:=hc4.size)
      | (refine stepRs _ (by rfl) _ _ (by rfl) WE.heap.size _ x (by first|rfl|(simp [go_sem];done)) O4 _ y (by first|rfl|(simp [go_sem];done)) rD' (by omega) hs4 ?_;intro v5 w5 own5 hg5;have hc5:Below WE.heap.size WE w5:=Below.grew hc4 hg5 hs4 (oB O4);have R5:=OwnR.rs own5 (by simp;omega);have hs5:=hc5.size)
      | (go_at_call 77;refine (l2Sum_any _ (x++y) _ R5 (by simp;omega) (by omega)).mono ?_;rintro e w8 ⟨o8,rfl,own9,hb8⟩;have hc2:Below WE.heap.size WE w8:=bSz hc5 hb8))
    have hbw8:Below w.heap.size w w8:=bSz hbwE hc2;have own8:OwnR w8 w.heap.size o8 (sumL ltS (x++y)):=oLz own9 (by omega);clear own9 d0 d1 y0 y1 y2;have R8:=OwnR.rs own8 (by omega);obtain ⟨a8,c8,e8,-⟩:=Rs.open R8;subst e8;have HO8:=(show Hid (OwnR w8 w.heap.size _ (sumL ltS (x++y))) from own8);clear own8;go_wp2_with fail;refine (sB _ _ w8 R8).mono ?_;rintro e w9 ⟨rfl,hb9⟩;have hbw9:=bSz hbw8 hb9;cases ho:bokB (sumL ltS (x++y))
    ·have HX:Hid (planR a b t=none):=by show _=_;rw [HKO.out,HOU.out,fitO_no ho]
     go_wp2_with fail;refine bodyPost_ret (v:= .tuple #[.slice a8 (sumL ltS (x++y)).length c8, .bool false]) (by simp [results,Tryz.results137,go_sem];try rfl) rfl ?_;exact ⟨.inr ⟨HX.out,_,_,_,rfl⟩,hbw9⟩
    ·have HX:Hid (planR a b t=some (sumL ltS (x++y))):=by show _=_;rw [HKO.out,HOU.out,fitO_yes ho]
     go_wp2_with fail;refine bodyPost_ret (v:= .tuple #[.slice a8 (sumL ltS (x++y)).length c8, .bool true]) (by simp [results,Tryz.results137,go_sem];try rfl) rfl ?_;exact ⟨.inl ⟨_,_,HX.out,rfl,oK HO8.out hb9⟩,hbw9⟩
   ·rw [hk] at p2 p3 p4 bPE;obtain ⟨x,rfl⟩:∃ x,K=[x]:=by
     have hx:K.length=1:=by
      have:kidN 4=1:=rfl;omega
     match K,hx with
     | [x],_=>exact ⟨x,rfl⟩
    clear p2 hKl;have HOU:Hid (outR a b t [x]=lessL x):=by show _=_;unfold outR;rw [if_neg (by omega),hk];rfl
    rw [HOU.out] at hol;have hx:=hK0 x (by simp);have hrx:=bRz hx;obtain ⟨kg,koff,kcap,kad,kcp,rfl,hkg,kc0,kR0,hkcap,hkmax⟩:=LK.one;obtain ⟨y0,y1,y2⟩:=bPE.three';have d0:=cB hbE kc0;have hsE:=hbwE.size;have rE:=kR0.keep hbE;clear LK kc0 kR0;go_wp2_with fail;refine (specLess2_any _ x _ rE).mono ?_;rintro e w8 ⟨o8,rfl,own9,hb8⟩;have hbw8:Below w.heap.size w w8:=bSz hbwE hb8;have own8:OwnR w8 w.heap.size o8 (lessL x):=oLz own9 hsE;clear own9 d0 y0 y1 y2;have R8:=OwnR.rs own8 (by omega);obtain ⟨a8,c8,e8,-⟩:=Rs.open R8;subst e8;have HO8:=(show Hid (OwnR w8 w.heap.size _ (lessL x)) from own8);clear own8;go_wp2_with fail;refine (sB _ _ w8 R8).mono ?_;rintro e w9 ⟨rfl,hb9⟩;have hbw9:=bSz hbw8 hb9;cases ho:bokB (lessL x)
    ·have HX:Hid (planR a b t=none):=by show _=_;rw [HKO.out,HOU.out,fitO_no ho]
     go_wp2_with fail;refine bodyPost_ret (v:= .tuple #[.slice a8 (lessL x).length c8, .bool false]) (by simp [results,Tryz.results137,go_sem];try rfl) rfl ?_;exact ⟨.inr ⟨HX.out,_,_,_,rfl⟩,hbw9⟩
    ·have HX:Hid (planR a b t=some (lessL x)):=by show _=_;rw [HKO.out,HOU.out,fitO_yes ho]
     go_wp2_with fail;refine bodyPost_ret (v:= .tuple #[.slice a8 (lessL x).length c8, .bool true]) (by simp [results,Tryz.results137,go_sem];try rfl) rfl ?_;exact ⟨.inl ⟨_,_,HX.out,rfl,oK HO8.out hb9⟩,hbw9⟩
   ·rw [hk] at p2 p3 p4 bPE;obtain ⟨x,y,rfl⟩:∃ x y,K=[x,y]:=by
     have hx:K.length=2:=by
      have:kidN 5=2:=rfl;omega
     exact two_of hx
    clear p2 hKl;have HOU:Hid (outR a b t [x,y]=sumL ltS (pairR x y)):=by show _=_;unfold outR;rw [if_neg (by omega),hk];rfl
    rw [HOU.out] at hol;have hx:=hK0 x (by simp);have hy:=hK0 y (by simp);have hrx:=bRz hx;have hry:=bRz hy;obtain ⟨kg,koff,kcap,kad,kcp,kad',kcp',rfl,hkg,kc0,kc1,kR0,kR1,hkcap,hkmax⟩:=LK.two;obtain ⟨y0,y1,y2⟩:=bPE.three';have d0:=cB hbE kc0;have d1:=cB hbE kc1;have hsE:=hbwE.size;have rE:=kR0.keep hbE;have rE':=kR1.keep hbE;clear LK kc0 kc1 kR0 kR1;go_wp2_with fail;generalize (wr.alloc (.cells #[] 55))=WE at *;have HX:Hid (∀ W,Below WE.heap.size WE W->W.cell? ⟨kg,koff,none⟩=some (.slice kad x.length kcp)/\W.cell? ⟨kg,koff+1,none⟩=some (.slice kad' y.length kcp')):=fun W hW=>⟨cB hW d0,cB hW d1⟩;have hcur:Below WE.heap.size WE WE.drew:=(Below.refl _ _).drew;have rD:=rE.keep hcur;have rD':=rE'.keep hcur
    go_region_held3 (fun W=>W.cell? ⟨kg,koff,none⟩=some (.slice kad x.length kcp)/\W.cell? ⟨kg,koff+1,none⟩=some (.slice kad' y.length kcp'))
     (first|exact HX.out _ hcur|exact HX.out _ hc2)
     (first
      | (go_at_call 189;with_reducible refine (l11Join_any _ _ x y _ rD rD' hrx hry).mono ?_;rintro e w8 ⟨o8,rfl,own9,hb8⟩;have hc2:Below WE.heap.size WE w8:=bSz hcur hb8))
    have hbw8:Below w.heap.size w w8:=bSz hbwE hc2;have own8:OwnR w8 w.heap.size o8 (sumL ltS (pairR x y)):=oLz own9 (by simpa using hsE);clear own9 d0 d1 y0 y1 y2;have R8:=OwnR.rs own8 (by omega);obtain ⟨a8,c8,e8,-⟩:=Rs.open R8;subst e8;have HO8:=(show Hid (OwnR w8 w.heap.size _ (sumL ltS (pairR x y))) from own8);clear own8;go_wp2_with fail;refine (sB _ _ w8 R8).mono ?_;rintro e w9 ⟨rfl,hb9⟩;have hbw9:=bSz hbw8 hb9;cases ho:bokB (sumL ltS (pairR x y))
    ·have HX:Hid (planR a b t=none):=by show _=_;rw [HKO.out,HOU.out,fitO_no ho]
     go_wp2_with fail;refine bodyPost_ret (v:= .tuple #[.slice a8 (sumL ltS (pairR x y)).length c8, .bool false]) (by simp [results,Tryz.results137,go_sem];try rfl) rfl ?_;exact ⟨.inr ⟨HX.out,_,_,_,rfl⟩,hbw9⟩
    ·have HX:Hid (planR a b t=some (sumL ltS (pairR x y))):=by show _=_;rw [HKO.out,HOU.out,fitO_yes ho]
     go_wp2_with fail;refine bodyPost_ret (v:= .tuple #[.slice a8 (sumL ltS (pairR x y)).length c8, .bool true]) (by simp [results,Tryz.results137,go_sem];try rfl) rfl ?_;exact ⟨.inl ⟨_,_,HX.out,rfl,oK HO8.out hb9⟩,hbw9⟩
   ·rw [hk] at p2 p3 p4 bPE;obtain ⟨x,rfl⟩:∃ x,K=[x]:=by
     have hx:K.length=1:=by
      have:kidN 6=1:=rfl;omega
     match K,hx with
     | [x],_=>exact ⟨x,rfl⟩
    clear p2 hKl;have HOU:Hid (outR a b t [x]=sumL ltS (fsumR t.n x)):=by show _=_;unfold outR;rw [if_neg (by omega),hk];rfl
    rw [HOU.out] at hol;have hx:=hK0 x (by simp);have hrx:=bRz hx;have hw:inB t.n 1 3=true:=by simp [numLo,numHi] at p3 p4;simp [inB];exact ⟨p3,p4⟩
    obtain ⟨kg,koff,kcap,kad,kcp,rfl,hkg,kc0,kR0,hkcap,hkmax⟩:=LK.one;obtain ⟨y0,y1,y2⟩:=bPE.three';have d0:=cB hbE kc0;have hsE:=hbwE.size;have rE:=kR0.keep hbE;clear LK kc0 kR0;go_wp2_with fail;generalize (wr.alloc (.cells #[] 55))=WE at *;have HX:Hid (∀ W,Below WE.heap.size WE W->W.cell? ⟨kg,koff,none⟩=some (.slice kad x.length kcp)/\W.cell? ⟨w.heap.size,1,none⟩=some (.int .i64 t.n)):=fun W hW=>⟨cB hW d0,cB hW y1⟩;have hcur:Below WE.heap.size WE WE.drew:=(Below.refl _ _).drew;have rD:=rE.keep hcur
    go_region_held3 (fun W=>W.cell? ⟨kg,koff,none⟩=some (.slice kad x.length kcp)/\W.cell? ⟨w.heap.size,1,none⟩=some (.int .i64 t.n))
     (first|exact HX.out _ hcur|exact HX.out _ hc2)
     (first
      | (go_at_call 190;with_reducible refine (l11Sum_any _ x _ _ rD hrx hw).mono ?_;rintro e w8 ⟨o8,rfl,own9,hb8⟩;have hc2:Below WE.heap.size WE w8:=bSz hcur hb8))
    have hbw8:Below w.heap.size w w8:=bSz hbwE hc2;have own8:OwnR w8 w.heap.size o8 (sumL ltS (fsumR t.n x)):=oLz own9 (by simpa using hsE);clear own9 d0 y0 y1 y2;have R8:=OwnR.rs own8 (by omega);obtain ⟨a8,c8,e8,-⟩:=Rs.open R8;subst e8;have HO8:=(show Hid (OwnR w8 w.heap.size _ (sumL ltS (fsumR t.n x))) from own8);clear own8;go_wp2_with fail;refine (sB _ _ w8 R8).mono ?_;rintro e w9 ⟨rfl,hb9⟩;have hbw9:=bSz hbw8 hb9;cases ho:bokB (sumL ltS (fsumR t.n x))
    ·have HX:Hid (planR a b t=none):=by show _=_;rw [HKO.out,HOU.out,fitO_no ho]
     go_wp2_with fail;refine bodyPost_ret (v:= .tuple #[.slice a8 (sumL ltS (fsumR t.n x)).length c8, .bool false]) (by simp [results,Tryz.results137,go_sem];try rfl) rfl ?_;exact ⟨.inr ⟨HX.out,_,_,_,rfl⟩,hbw9⟩
    ·have HX:Hid (planR a b t=some (sumL ltS (fsumR t.n x))):=by show _=_;rw [HKO.out,HOU.out,fitO_yes ho]
     go_wp2_with fail;refine bodyPost_ret (v:= .tuple #[.slice a8 (sumL ltS (fsumR t.n x)).length c8, .bool true]) (by simp [results,Tryz.results137,go_sem];try rfl) rfl ?_;exact ⟨.inl ⟨_,_,HX.out,rfl,oK HO8.out hb9⟩,hbw9⟩
theorem rawR_any {a b:List Rw} (hal:a.length<=400) (hbl:b.length<=400) {B:Nat} {iv:Value}:∀ (d:Nat) (t:PT) {s:Value} {w:World},pokB t d=true->FineR a b t->KdS B w t s->LyR w iv [a,b]->Calls Tryz.prog 137 #[pl t.k t.n s,iv] w (RawR a b t w):=by
 intro d
 induction d with
 | zero=>intro t s w hp;rw [pok_zero] at hp;cases hp
 | succ d ih =>
  intro t s w hp hf hs hi;obtain ⟨hh,hk⟩:=pok_parts hp;exact rawR_step hal hbl hh hf hs hi fun i hi' W s' hs' hiv=>ih (t.kid i) (hk i hi') (fineR_kid hf hi') hs' hiv
theorem specPlanFlow_any {t:PT} {B:Nat} {s iv:Value} {K:List (List Rw)} {w:World} (hs:KdS B w t s) (hi:LyR w iv K) (hfi:∀ a b,K=[a,b]->pokB t 4=true->bokB a=true->bokB b=true->FineR a b t) :
  Calls Tryz.prog 69 #[pl t.k t.n s,iv] w fun e w'=>∃ o:Value,e= .returned (.tuple #[o, .bool (flowR t K).isSome])/\OwnR w' w.heap.size o ((flowR t K).getD [])/\Below w.heap.size w w':=by
 have bP:Bk (w.alloc (.cells #[.int .i64 t.k, .int .i64 t.n,s] 25)) w.heap.size #[.int .i64 t.k, .int .i64 t.n,s] 25:=Bk.new _ _ rfl;have hb0:Below w.heap.size w (w.alloc (.cells #[.int .i64 t.k, .int .i64 t.n,s] 25)):=bAz (Below.refl _ _) _;obtain ⟨x0,x1,x2⟩:=bP.three';have HS:=(show Hid (KdS B w t s) from hs);have HI:=(show Hid (LyR w iv K) from hi);have HF:=(show Hid _ from hfi);obtain ⟨a,c,rfl⟩:=hs.sl;obtain ⟨ia,ic,rfl,hic,him,hil,-⟩:=hi.open;unfold maxLen at him;clear hs hi hfi;go_enter Tryz.func69,Tryz.ntmps69;go_wp2_with fail;refine (specPlanOk_any (HS.out.keep hb0)).mono ?_;rintro e w1 ⟨rfl,hb1⟩;have hbw1:=bSz hb0 hb1;have bP1:=bP.keep hb1;have hs1:=hbw1.size;clear x0 x1 x2 bP;obtain ⟨x0,x1,x2⟩:=bP1.three';cases hp:pokB t 4
 ·have HX:Hid (flowR t K=none):=flowR_no1 hp;go_wp2_with fail;refine bodyPost_ret (by simp [results,Tryz.results69,go_sem];try rfl) rfl ?_;exact ⟨_,by rw [HX.out];rfl,by rw [HX.out];exact oLz (oEz w1 rfl) hs1,bAz hbw1 _⟩
 have HP:=(show Hid (pokB t 4=true) from hp)
 by_cases h2:K.length=2
 ·have ik:((K.length:Int)==2)=true:=by simp;omega
  have ik2:(K.length:Int)=2:=by omega
  have h2':=(show Hid (K.length=2) from h2);clear h2;go_wp2_with fail
  go_loopw [6] (fun i wr=>∃ k:Nat,k<=K.length/\i= .int .i64 k/\(K.take k).all bokB=true/\Below w1.heap.size w1 wr) (fun i _=>K.length-(intOf i).toNat)
  case atStart=>exact ⟨0,by omega,rfl,by simp,Below.refl _ _⟩
  case round =>
   obtain ⟨k,hkl,rfl,hall,hb⟩:=hrel;have HA:=(show Hid ((K.take k).all bokB=true) from hall);have hbw:=bSz hbw1 hb;have hsw:=hbw.size;clear hall x0 x1 x2
   by_cases hlt:k<K.length
   ·obtain ⟨l,hl⟩:∃ l,K[k]?=some l:=⟨_,List.getElem?_eq_getElem hlt⟩;obtain ⟨a',cap',e',-,-,-,hcell⟩:=(HI.out.keep hbw).open;cases e';obtain ⟨g,off,ad,cp,rfl,hg,c0,hR⟩:=hcell k l hl;have ik3:((k:Int)<(K.length:Int)):=by omega
    have HL:=(show Hid (K[k]?=some l) from hl);clear hcell hl;go_wp2_with fail;refine (sB _ l wr hR).mono ?_;rintro e w3 ⟨rfl,hb3⟩;have hbw3:=bSz hb hb3;cases ho:bokB l
    ·have HX:Hid (flowR t K=none):=by
      refine flowR_no3 ?_;rw [List.all_eq_false];exact ⟨l,List.mem_of_getElem? HL.out,by simp [ho]⟩
     have hbw4:=bSz hbw1 hbw3;have hs4:=hbw4.size;go_wp2_with fail;refine bodyPost_ret (by simp [results,Tryz.results69,go_sem];try rfl) rfl ?_;exact ⟨_,by rw [HX.out];rfl,by rw [HX.out];exact oLz (oEz w3 rfl) hs4,bAz hbw4 _⟩
    ·have HX:Hid ((K.take (k+1)).all bokB=true):=by
      show _=_
      rw [tSz HL.out,List.all_append,HA.out];simp [ho]
     go_wp2_with fail;go_roundw
     case rel=>exact ⟨k+1,by omega,by go_num,HX.out,hbw3⟩
     case measure=>simp [intOf];omega
   ·obtain rfl:k=K.length:=by omega
    rw [List.take_length] at HA;have ik3:¬ ((K.length:Int)<(K.length:Int)):=by omega
    obtain ⟨la,lb,hK⟩:=two_of h2'.out;have hab:bokB la=true/\bokB lb=true:=by have:=HA.out;rw [hK] at this;simpa using this
    have HX:Hid (flowR t K=planR la lb t):=by show _=_;rw [hK];exact flowR_two HP.out hab.1 hab.2
    have HM:=(show Hid _ from rawR_any (bokR_len hab.1) (bokR_len hab.2) 4 t HP.out (HF.out la lb hK HP.out hab.1 hab.2) (HS.out.keep hbw) (by rw [<- hK];exact HI.out.keep hbw));have bP4:=bP1.keep hb;obtain ⟨y0,y1,y2⟩:=bP4.three';clear HF hK hab HA;go_wp2_with fail;refine Calls.mono HM.out ?_;rintro e w5 ⟨hor,hb5⟩;have hbw5:=bSz hbw hb5;have hs5:=hbw5.size;clear HM
    rcases hor with ⟨o5,r5,hp5,rfl,own5⟩|⟨hp5,z1,z2,z3,rfl⟩
    ·have O5:=(show Hid (OwnR w5 w.heap.size o5 r5) from oLz own5 hsw);have HY:=(show Hid (planR la lb t=some r5) from hp5);clear own5 hp5;go_wp2_with fail;refine bodyPost_ret (v:= .tuple #[o5, .bool true]) (by simp [results,Tryz.results69,go_sem];try rfl) rfl ?_;exact ⟨_,by rw [HX.out,HY.out];rfl,by rw [HX.out,HY.out];exact O5.out,hbw5⟩
    ·have HY:=(show Hid (planR la lb t=none) from hp5);clear hp5;go_wp2_with fail;refine bodyPost_ret (by simp [results,Tryz.results69,go_sem];try rfl) rfl ?_;exact ⟨_,by rw [HX.out,HY.out];rfl,by rw [HX.out,HY.out];exact oLz (oEz w5 rfl) hs5,bAz hbw5 _⟩
 ·have ik:((K.length:Int)==2)=false:=by simp;omega
  have HX:Hid (flowR t K=none):=flowR_no2 h2;go_wp2_with fail;refine bodyPost_ret (by simp [results,Tryz.results69,go_sem];try rfl) rfl ?_;exact ⟨_,by rw [HX.out];rfl,by rw [HX.out];exact oLz (oEz w1 rfl) hs1,bAz hbw1 _⟩
theorem flowR_bok {t:PT} {K:List (List Rw)} {r:List Rw} (h:flowR t K=some r):bokB r=true:=by
 obtain ⟨a,b,_,_,_,_,hp⟩:=flowR_some h;exact planR_bok hp
theorem flowR_len {t:PT} {K:List (List Rw)} {r:List Rw} (h:flowR t K=some r):r.length<=400:=rLz (bRz (flowR_bok h))
theorem implFlow_yes (ea:Addr) {t:PT} {B:Nat} {s iv:Value} {K:List (List Rw)} {w:World} {r:List Rw} (hf:flowR t K=some r) (hsm:t.sm) (hs:KdS B w t s) (hi:LyR w iv K) (hg:w.cell? ⟨0,0,none⟩=some (erV ea)) :
  Calls Tryz.prog 36 #[pl t.k t.n s,iv] w fun e w'=>∃ o:Value,e= .returned (.tuple #[o, .bool true])/\Rs w' o r/\Below w.heap.size w w':=by
 refine (implPlanFlow_any ea hsm hs hi hg (fun _ _ _ _ _ _=>trivial)).mono ?_;rintro e w1 ⟨o,rfl,own,hb⟩;rw [hf] at own ⊢;exact ⟨o,rfl,OwnR.rs own (by have:=flowR_len hf;simp;omega),hb⟩
theorem implFlow_no (ea:Addr) {t:PT} {B:Nat} {s iv:Value} {K:List (List Rw)} {w:World} (hf:flowR t K=none) (hsm:t.sm) (hs:KdS B w t s) (hi:LyR w iv K) (hg:w.cell? ⟨0,0,none⟩=some (erV ea)) :
  Calls Tryz.prog 36 #[pl t.k t.n s,iv] w fun e w'=>∃ o:Value,e= .returned (.tuple #[o, .bool false])/\Rs w' o []/\Below w.heap.size w w':=by
 refine (implPlanFlow_any ea hsm hs hi hg (fun _ _ _ _ _ _=>trivial)).mono ?_;rintro e w1 ⟨o,rfl,own,hb⟩;rw [hf] at own ⊢;exact ⟨o,rfl,OwnR.rs own (by simp),hb⟩
theorem specFlow_yes {t:PT} {B:Nat} {s iv:Value} {K:List (List Rw)} {w:World} {r:List Rw} (hf:flowR t K=some r) (hs:KdS B w t s) (hi:LyR w iv K) :
  Calls Tryz.prog 69 #[pl t.k t.n s,iv] w fun e w'=>∃ o:Value,e= .returned (.tuple #[o, .bool true])/\Rs w' o r/\Below w.heap.size w w':=by
 refine (specPlanFlow_any hs hi (fun _ _ _ _ _ _=>trivial)).mono ?_;rintro e w1 ⟨o,rfl,own,hb⟩;rw [hf] at own ⊢;exact ⟨o,rfl,OwnR.rs own (by have:=flowR_len hf;simp;omega),hb⟩
theorem specFlow_no {t:PT} {B:Nat} {s iv:Value} {K:List (List Rw)} {w:World} (hf:flowR t K=none) (hs:KdS B w t s) (hi:LyR w iv K) :
  Calls Tryz.prog 69 #[pl t.k t.n s,iv] w fun e w'=>∃ o:Value,e= .returned (.tuple #[o, .bool false])/\Rs w' o []/\Below w.heap.size w w':=by
 refine (specPlanFlow_any hs hi (fun _ _ _ _ _ _=>trivial)).mono ?_;rintro e w1 ⟨o,rfl,own,hb⟩;rw [hf] at own ⊢;exact ⟨o,rfl,OwnR.rs own (by simp),hb⟩
end Go.Proofs.YtbdpcngcbnoioaaGreatDoor
