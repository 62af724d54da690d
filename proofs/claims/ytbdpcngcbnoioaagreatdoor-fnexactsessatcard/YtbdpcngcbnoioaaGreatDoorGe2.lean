import Derived.Test.YtbdpcngcbnoioaaGreatDoorGe1
import Derived.Test.YtbdpcngcbnoioaaGreatDoorGk2
set_option maxRecDepth 100000
set_option maxHeartbeats 8000000
namespace Go.Proofs.YtbdpcngcbnoioaaGreatDoor
open Go.RowKit
attribute [local go_sem ↓] Go.wp_at_zero Go.wp_at_succ
theorem l11Each_any (v:Value) (l:List Rw) (how:Int) (w:World) (h:Rs w v l) (hk:rokB l=true) (hw:inB how 1 7=true) :
  Calls Tryz.prog 188 #[v, .int .i64 how] w fun e w'=>∃ o:Value,e= .returned o/\OwnR w' w.heap.size o (sumL ltS (eachR how l))/\Below w.heap.size w w':=by
 obtain ⟨a,cap,rfl,hc,hm,hn,hcells⟩:=Rs.open h;unfold maxLen at hm;have HC:=(show Hid _ from hcells);have oE:=oEz w rfl;have hbE:=bAz (Below.refl _ w) (.cells #[] 55);have hl:=rL hk;have HK:Hid (∀ (k:Nat) (K V A B D:Int),l[k]?=some (((K,V),(A,B)),D)->0<=K/\K<=3/\0<=V/\V<=99/\okB A B=true):=rok_kt hk;have HA:Hid (absum (eachR how l)<=39999600):=by have h1:=eachR_abs how l;have h2:=rok_absF hk;show _<=_;omega
 clear hcells h hk;go_enter Tryz.func188,Tryz.ntmps188;go_wp2_with fail
 go_loopw [5,6] (fun o i wr=>∃ k:Nat,k<=l.length/\i= .int .i64 k/\OwnR wr w.heap.size o (eachR how (l.take k))/\Below w.heap.size w wr) (fun _ i _=>l.length-(intOf i).toNat)
 case atStart=>exact ⟨0,by omega,rfl,by simpa [eachR] using oE,hbE⟩
 case round =>
  clear oE hbE;obtain ⟨k,hkl,rfl,hown,hb⟩:=hrel;have HO:Hid (OwnR wr w.heap.size u5 (eachR how (l.take k))):=hown;have hel:(eachR how (l.take k)).length<=400:=by have:=eachR_len how (l.take k);simp at this;omega
  clear hown;have hsz:=hb.size
  by_cases hlt:k<l.length
  ·obtain ⟨g,off,K,V,A,B,D,rfl,hg,hr,c0,c1,c2,c3,c4⟩:=HC.out k hlt;obtain ⟨i1,i2,i3,i4,-⟩:=HK.out k _ _ _ _ _ hr;have hit:itK (K,V):=⟨i1,i2,i3,i4⟩;have ik:((k:Int)<(l.length:Int)):=by omega
   have d0:∀ p:Bel wr,p.ww.cell? ⟨g,off+k*5,none⟩=some (.int .i64 K):=fun p=>cB p.below (cB hb c0);have d1:∀ p:Bel wr,p.ww.cell? ⟨g,off+k*5+1,none⟩=some (.int .i64 V):=fun p=>cB p.below (cB hb c1);have C2:Hid (w.cell? ⟨g,off+k*5+2,none⟩=some (.int .i64 A)/\w.cell? ⟨g,off+k*5+3,none⟩=some (.int .i64 B)/\w.cell? ⟨g,off+k*5+4,none⟩=some (.int .i64 D)):=⟨c2,c3,c4⟩;have HR:=(show Hid _ from hr);have hne:=bel_some wr;clear c0 c1 c2 c3 c4 hr i1 i2 i3 i4;cases hP:wayP how (K,V)
   ·have HZ:=(show Hid _ from eachR_no HR.out hP);go_wp2_with fail
    (refine wBz (by kernel_rfl) (by kernel_rfl) ?_;(repeat (go_big_quiet_step ((first|(go_at_call 228;exact clz (l3One_eq (by with_reducible assumption) (by with_reducible assumption) (by with_reducible assumption) _))))));refine wpQuiet_nil ?_)
    intro w3 hw3
    replace hw3:=bOz hw3
    have hb3:=bSz hb hw3;have O3:Hid (OwnR w3 w.heap.size u5 (eachR how (l.take k))):=oK HO.out hw3;go_wp2_with fail;go_roundw
    case rel=>exact ⟨k+1,by omega,by go_num,by rw [HZ.out];exact O3.out,hb3⟩
    case measure=>simp [intOf];omega
   ·have HZ:=(show Hid _ from eachR_yes HR.out hP);go_wp2_with fail
    (refine wBz (by kernel_rfl) (by kernel_rfl) ?_;(repeat (go_big_quiet_step ((first|(go_at_call 228;exact clz (l3One_eq (by with_reducible assumption) (by with_reducible assumption) (by with_reducible assumption) _))))));refine wpQuiet_nil ?_)
    intro w3 hw3
    replace hw3:=bOz hw3
    have hb3:=bSz hb hw3;have hs3:=hb3.size;have O3:Hid (OwnR w3 w.heap.size u5 (eachR how (l.take k))):=oK HO.out hw3;have HX:Hid (∀ W,Below w.heap.size w W->W.cell? ⟨g,off+k*5+2,none⟩=some (.int .i64 A)/\W.cell? ⟨g,off+k*5+3,none⟩=some (.int .i64 B)/\W.cell? ⟨g,off+k*5+4,none⟩=some (.int .i64 D)):=fun W hW =>
     ⟨cB hW C2.out.1,cB hW C2.out.2.1,cB hW C2.out.2.2⟩
    have hbD:Below w.heap.size w w3.drew:=hb3.drew;have OD:Hid (OwnR w3.drew w.heap.size u5 (eachR how (l.take k))):=oK O3.out (Below.refl _ _).drew;have hsD:∀ ob:Obj,w.heap.size<=(w3.drew.alloc ob).heap.size:=fun ob=>(bAz hbD ob).size;have eM:wayM how (K,V)=((wayM how (K,V)).1,(wayM how (K,V)).2):=rfl;have HM:Hid (wayM how (K,V)=((wayM how (K,V)).1,(wayM how (K,V)).2)):=eM;clear eM HO O3;generalize (wayM how (K,V)).1=K2 at *;generalize (wayM how (K,V)).2=V2 at *;generalize eachR how (l.take k)=LL at *;have hl2:LL.length<=2000000:=by omega
    obtain ⟨e2,e3,e4⟩:=HX.out _ hb3;have HG:Hid (∀ (w7:World) (ob:Obj),(w3.drew.alloc ob).grownBy w7 u5.ownBlock->Below w.heap.size w w7):=fun w7 ob h3=>Below.grew (bAz hbD _) h3 (bAz hbD ob).size (oB OD.out);go_wp2_with fail
    go_region_held3 (fun W=>W.cell? ⟨g,off+k*5+2,none⟩=some (.int .i64 A)/\W.cell? ⟨g,off+k*5+3,none⟩=some (.int .i64 B)/\W.cell? ⟨g,off+k*5+4,none⟩=some (.int .i64 D))
     (first|exact HX.out _ hbD|exact HX.out _ (bAz hbD _)|exact HX.out _ hb7)
     (first
      | (refine stepR _ (by rfl) _ _ (by rfl) w.heap.size _ LL (by rfl) (OD.out.alloc _) _ K2 V2 A B D (by rfl) (Bk.new _ _ rfl) hl2 (hsD _) ?_;intro g7 cap7 w7 own7 hgrow hlg;have hb7:=HG.out _ _ hgrow))
    go_wp2_with fail;exact ⟨⟨k+1,by omega,by go_num,by rw [HZ.out,HM.out];exact own7,hb7⟩,by simp [intOf];omega⟩
  ·obtain rfl:k=l.length:=by omega
   rw [List.take_length] at HO hel;have R1:Rs wr u5 (eachR how l):=OwnR.rs HO.out (by omega);clear HO;go_wp2_with fail;refine (l2Sum_any _ (eachR how l) _ R1 (by omega) (by have:=HA.out;omega)).mono ?_;rintro e w2 ⟨o2,rfl,own2,hb2⟩;have O2:Hid (OwnR w2 wr.heap.size o2 (sumL ltS (eachR how l))):=own2;clear own2;go_wp2_with fail;go_ret;exact ⟨_,rfl,oL O2.out hsz,bSz hb hb2⟩
open Go.Shelf
theorem eachRows_any (fn:Nat) (how:Int) (v:Value) (l:List Rw) (w:World) (h:Rs w v l) (hk:rokB l=true) (eg:∀ args w,(callFunc fn args).run Tryz.prog w= .ok (.enter fn args) w)
  (hway:∀ (K V:Int) (W:World),0<=K->K<=3->0<=V->V<=99->Calls Tryz.prog fn #[.agg #[.int .i64 K, .int .i64 V]] W fun e w'=>e= .returned (.tuple #[.agg #[.int .i64 (wayM how (K,V)).1, .int .i64 (wayM how (K,V)).2], .bool (wayP how (K,V))])/\Below W.heap.size W w') :
  Calls Tryz.prog 172 #[v, .func (.func fn) #[] #[]] w fun e w'=>∃ o:Value,e= .returned o/\OwnR w' w.heap.size o (eachR how l)/\Below w.heap.size w w':=by
 have HW:Hid (∀ (K V:Int) (W:World),0<=K->K<=3->0<=V->V<=99->Calls Tryz.prog fn #[.agg #[.int .i64 K, .int .i64 V]] W fun e w'=>e= .returned (.tuple #[.agg #[.int .i64 (wayM how (K,V)).1, .int .i64 (wayM how (K,V)).2], .bool (wayP how (K,V))])/\Below W.heap.size W w'):=hway;have hl:=rL hk;have HK:Hid (∀ (k:Nat) (K V A B D:Int),l[k]?=some (((K,V),(A,B)),D)->0<=K/\K<=3/\0<=V/\V<=99/\okB A B=true):=rok_kt hk;obtain ⟨a,cap,rfl,hc,hm,hn,hcells⟩:=Rs.open h;unfold maxLen at hm;have HC:=(show Hid _ from hcells);clear hcells h hk hway;go_enter Tryz.func172,Tryz.ntmps172;go_wp2_with fail
 go_loopw [5,12] (fun o i wr=>∃ k:Nat,k<=l.length/\i= .int .i64 k/\OwnR wr w.heap.size o (eachR how (l.take k))/\Below w.heap.size w wr) (fun _ i _=>l.length-(intOf i).toNat)
 case atStart=>exact ⟨0,by omega,rfl,by simpa [eachR] using oN rowC 5 55 w w.heap.size,Below.refl _ _⟩
 case round =>
  obtain ⟨k,hkl,rfl,hown,hb⟩:=hrel;have HO:Hid (OwnR wr w.heap.size u5 (eachR how (l.take k))):=hown;have hel:(eachR how (l.take k)).length<=400:=by have:=eachR_len how (l.take k);simp at this;omega
  clear hown
  by_cases hlt:k<l.length
  ·obtain ⟨g,off,K,V,A,B,D,rfl,hg,hr,c0,c1,c2,c3,c4⟩:=HC.out k hlt;obtain ⟨i1,i2,i3,i4,-⟩:=HK.out k _ _ _ _ _ hr;have d0:=cB hb c0;have d1:=cB hb c1;have d2:=cB hb c2;have d3:=cB hb c3;have d4:=cB hb c4;have ik:((k:Int)<(l.length:Int)):=by omega
   have bx:=Bk.new (w:=wr) #[.int .i64 K, .int .i64 V, .int .i64 A, .int .i64 B, .int .i64 D] 55 rfl;have hbx0:Below wr.heap.size wr (wr.alloc (.cells #[.int .i64 K, .int .i64 V, .int .i64 A, .int .i64 B, .int .i64 D] 55)):=bAz (Below.refl _ _) _;have hbx:=bSz hb hbx0;have O1:Hid (OwnR (wr.alloc (.cells #[.int .i64 K, .int .i64 V, .int .i64 A, .int .i64 B, .int .i64 D] 55)) w.heap.size u5 (eachR how (l.take k))):=oK HO.out hbx0;have HYES:Hid (wayP how (K,V)=true->eachR how (l.take (k+1))=eachR how (l.take k)++[((wayM how (K,V),(A,B)),D)]):=fun hp=>eachR_yes hr hp;have HNO:Hid (wayP how (K,V)=false->eachR how (l.take (k+1))=eachR how (l.take k)):=fun hp=>eachR_no hr hp;clear c0 c1 c2 c3 c4 hr hbx0 hb HO
   go_upto_region 5 with fail
   clear d0 d1 d2 d3 d4;generalize wr.heap.size=tb at *;generalize World.alloc _ _=wx at *;obtain ⟨q0,q1,q2,q3,q4⟩:=bx.five;go_wp2_with fail;refine (HW.out K V _ i1 i2 i3 i4).mono ?_;rintro e wy ⟨rfl,hby⟩;have by1:=bx.keep hby
   have O2:Hid (OwnR wy w.heap.size u5 (eachR how (l.take k))):=oK O1.out hby
   have hbn:=bSz hbx hby
   have HM:Hid (wayM how (K,V)=((wayM how (K,V)).1,(wayM how (K,V)).2)):=rfl;clear q0 q1 q2 q3 q4 bx hbx hby O1;generalize (wayM how (K,V)).1=K2 at *;generalize (wayM how (K,V)).2=V2 at *;generalize hP:wayP how (K,V)=r at *;clear hP;have bt0:=Bk.new (w:=wy) #[.int .i64 K2, .int .i64 V2] 131 rfl;have hbt:Below wy.heap.size wy (wy.alloc (.cells #[.int .i64 K2, .int .i64 V2] 131)):=bAz (Below.refl _ _) _;have bz:=by1.keep hbt;have hbz:=bSz hbn hbt;have O3:Hid (OwnR (wy.alloc (.cells #[.int .i64 K2, .int .i64 V2] 131)) w.heap.size u5 (eachR how (l.take k))):=oK O2.out hbt
   go_upto_region 6 with fail
   clear by1 hbn hbt O2;generalize wy.heap.size=ub at *;generalize World.alloc _ _=wt at *;cases r
   ·have HZ:Hid (eachR how (l.take (k+1))=eachR how (l.take k)):=HNO.out rfl;go_wp2_with fail;go_roundw
    case rel=>exact ⟨k+1,by omega,by go_num,(by rw [HZ.out];exact O3.out),hbz⟩
    case measure=>simp [intOf];omega
   ·have HZ:Hid (eachR how (l.take (k+1))=eachR how (l.take k)++[(((K2,V2),(A,B)),D)]):=by show _=_;rw [HYES.out rfl,HM.out]
    obtain ⟨y0,y1,y2,y3,y4⟩:=bz.five;obtain ⟨t0,t1,_,_⟩:=bt0.two;have hsz:=hbz.size;have O4:=O3.out.alloc (.cells #[.int .i64 K2, .int .i64 V2, .int .i64 A, .int .i64 B, .int .i64 D] 55);clear O3;generalize hE:eachR how (l.take k)=EL at *
    go_wp2_with (at_builtin;refine appR _ rfl _ _ rfl w.heap.size _ EL rfl O4 _ K2 V2 A B D rfl (Bk.new _ _ rfl) (by omega) (by simp;omega) ?_;intro g7 cap7 w7 own7 hgrow hlg)
    have hb7:Below w.heap.size w w7:=Below.grew (bAz hbz _) hgrow (by simp;omega) (oB O4);go_roundw
    case rel=>exact ⟨k+1,by omega,by go_num,by rw [HZ.out];exact own7,hb7⟩
    case measure=>simp [intOf];omega
  ·obtain rfl:k=l.length:=by omega
   rw [List.take_length] at HO;have ik:¬ ((l.length:Int)<(l.length:Int)):=by omega
   go_wp2_with fail;go_ret;exact ⟨_,rfl,HO.out,hb⟩
end Go.Proofs.YtbdpcngcbnoioaaGreatDoor
