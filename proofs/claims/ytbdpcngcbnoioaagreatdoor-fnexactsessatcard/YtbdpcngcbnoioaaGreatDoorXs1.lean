import Derived.Test.YtbdpcngcbnoioaaGreatDoorGa8
import Derived.Test.YtbdpcngcbnoioaaGreatDoorZm0
import Derived.Test.YtbdpcngcbnoioaaGreatDoorZe1
import Derived.Test.YtbdpcngcbnoioaaGreatDoorAng
import Derived.Test.YtbdpcngcbnoioaaGreatDoorGlk
import Derived.Test.YtbdpcngcbnoioaaGreatDoorAn7
import Derived.Test.YtbdpcngcbnoioaaGreatDoorXs0
set_option maxHeartbeats 4000000
namespace Go.Proofs.YtbdpcngcbnoioaaGreatDoor
open Go.RowKit
def marksL (a:Int) (n:Nat):LI:=(List.range n).map fun i:Nat=>(a+2*(i:Int),a+2*(i:Int)+1)
theorem marksL_at (a:Int) {n i:Nat} (h:i<n):tA (marksL a n) i=a+2*(i:Int)/\tB (marksL a n) i=a+2*(i:Int)+1:=by
 simp [marksL,tA,tB,h]
theorem markB_any (g n cap:Nat) (c:Array Value) (a:Int) (w:World) (h:Bk w g c 32) (hs:c.size=cap*2) (hc:n<=cap) (hn:n<=2097152) (h0:0<=a) (h1:a<=1000000000) :
  Calls Tryz.prog 50 #[.slice (some ⟨g,0,none⟩) n cap, .int .i64 a] w fun e w' =>
   ∃ c':Array Value,e= .returned (.int .i64 (a+2*(n:Int)))/\Bk w' g c' 32/\c'.size=cap*2/\Fill c' (marksL a n) n/\Bx g w w':=by
 go_enter Tryz.func50,Tryz.ntmps50;go_wp2_with fail
 go_loopw [1,5] (fun q i wr=>∃ (k:Nat) (c':Array Value),k<=n/\i= .int .i64 k/\q= .int .i64 (a+2*(k:Int))/\Bk wr g c' 32/\c'.size=cap*2/\Fill c' (marksL a n) k/\Bx g w wr) (fun _ i _=>n-(intOf i).toNat)
 case atStart=>exact ⟨0,c,by omega,rfl,by simp,h,hs,fun i hi=>by omega,Bx.refl _ _⟩
 case round =>
  clear h hs;obtain ⟨k,c',hk,rfl,rfl,hbk,hcs,hfill,hb⟩:=hrel;have HF:=(show Hid _ from hfill);have HS:=(show Hid _ from hcs)
  by_cases hlt:k<n
  ·obtain ⟨y0,q0⟩:∃ y,wr.cell? ⟨g,k*2,none⟩=some y:=⟨_,hbk.cell (Array.getElem?_eq_getElem (show k*2<c'.size by omega))⟩;obtain ⟨y1,q1⟩:∃ y,wr.cell? ⟨g,k*2+1,none⟩=some y:=⟨_,hbk.cell (Array.getElem?_eq_getElem (show k*2+1<c'.size by omega))⟩;have f0:=hbk.free (k*2);have f1:=hbk.free (k*2+1);have EM:=(show Hid _ from marksL_at a hlt);clear hfill hcs;have bk1:=hbk.set (k*2) (.int .i64 (a+2*(k:Int)));have bk2:=bk1.set (k*2+1) (.int .i64 (a+2*(k:Int)+1));have f2:=bk1.free (k*2+1);obtain ⟨y2,q2⟩:∃ y,(wr.setCell ⟨g,k*2,none⟩ (.int .i64 (a+2*(k:Int)))).cell? ⟨g,k*2+1,none⟩=some y:=⟨_,bk1.cell (Array.getElem?_eq_getElem (by have:=HS.out;simp;omega))⟩;go_wp2_with fail;go_roundw
   case rel =>
    refine ⟨k+1,_,by omega,by go_num,by go_num,bk2,?_,?_,?_⟩
    ·simpa using HS.out
    ·have:=Fill.step (k:=k) HF.out (by have:=HS.out;omega);rw [EM.out.1,EM.out.2] at this;exact this
    ·exact (hb.setG rfl _).setG rfl _
   case measure=>simp [intOf];omega
  ·obtain rfl:k=n:=by omega
   go_wp2_with fail;go_ret;exact ⟨c',rfl,hbk,HS.out,HF.out,hb⟩
end Go.Proofs.YtbdpcngcbnoioaaGreatDoor
namespace Go.Proofs.YtbdpcngcbnoioaaGreatDoor
open Go.RowKit Go.Shelf
theorem flat_take {L:List (List Rw)} {k:Nat} (hk:k<L.length):(L.take (k+1)).flatten.length=(L.take k).flatten.length+(gl L k).length:=by
 rw [tS (gl_at hk),List.flatten_append,List.length_append];simp
end Go.Proofs.YtbdpcngcbnoioaaGreatDoor
set_option maxRecDepth 100000
set_option maxHeartbeats 4000000
namespace Go.Proofs.YtbdpcngcbnoioaaGreatDoor
open Go.RowKit
structure Bz (lo hi:Nat) (w w':World):Prop where
 os:w'.os=w.os
 tape:w'.tape=w.tape
 output:w'.output=w.output
 size:w.heap.size<=w'.heap.size
 block:∀ k,k<w.heap.size->(k<lo\/hi<=k)->w'.heap[k]?=w.heap[k]?
theorem Bz.refl (lo hi:Nat) (w:World):Bz lo hi w w:=⟨rfl,rfl,rfl,Nat.le_refl _,fun _ _ _=>rfl⟩
theorem Bz.trans {lo hi:Nat} {a b c:World} (h:Bz lo hi a b) (k:Bz lo hi b c):Bz lo hi a c :=
 ⟨k.os.trans h.os,k.tape.trans h.tape,k.output.trans h.output,Nat.le_trans h.size k.size,fun i hi hg=>(k.block i (Nat.lt_of_lt_of_le hi h.size) hg).trans (h.block i hi hg)⟩
theorem Bz.of_bx {lo hi g:Nat} {w w':World} (h:Bx g w w') (h1:lo<=g) (h2:g<hi):Bz lo hi w w':=⟨h.os,h.tape,h.output,h.size,fun k hk hg=>h.block k hk (by omega)⟩
theorem Bz.of_below {lo hi:Nat} {w w':World} (h:Below w.heap.size w w'):Bz lo hi w w':=⟨h.os,h.tape,h.output,h.size,fun k hk _=>h.block k hk⟩
theorem Bz.below {lo hi n:Nat} {w0 w w':World} (h:Bz lo hi w w') (h0:Below n w0 w) (hn:n<=w.heap.size) (hl:n<=lo):Below n w0 w' :=
 h0.trans ⟨h.os,h.tape,h.output,h.size,fun k hk=>h.block k (by omega) (by omega)⟩
theorem Bk.keepz {lo hi:Nat} {w w1:World} {k:Nat} {c:Array Value} {t:TypeId} (h:Bk w k c t) (hb:Bz lo hi w w1) (hk:k<lo\/hi<=k):Bk w1 k c t:=by
 unfold Bk;rw [hb.block k h.lt hk];exact h
theorem Bk.under {N:Nat} {w w1:World} {k:Nat} {c:Array Value} {t:TypeId} (h:Bk w k c t) (hb:Below N w w1) (hk:k<N):Bk w1 k c t:=by
 unfold Bk;rw [hb.block k hk];exact h
theorem ownK_besides {t:TypeId} {k:Nat} {w w1:World} {B lo hi:Nat} {v:Value} {n:Nat} {xs:List Value} (h:w.ownsRow B t k v n xs) (hb:Bz lo hi w w1) (hk:∀ b,v.ownBlock=some b->b<lo\/hi<=b):w1.ownsRow B t k v n xs :=
 oAz h fun b e=>hb.block b (oT h b e) (hk b e)
def MkS (w:World) (c:Array Value) (G:Nat->Nat) (L:List (List Rw)):Prop :=
 ∀ i,i<L.length->∃ ci,c[i]?=some (.slice (some ⟨G i,0,none⟩) (gl L i).length (gl L i).length)/\Bk w (G i) ci 55/\ci.size=(gl L i).length*5
theorem flat_leZ (L:List (List Rw)) (k:Nat):(L.take k).flatten.length<=L.flatten.length:=by
 conv=>rhs;rw [<- List.take_append_drop k L]
 rw [List.flatten_append,List.length_append];omega
theorem markRowSS_any (g B hi:Nat) (c:Array Value) (G:Nat->Nat) (L:List (List Rw)) (a:Int) (w:World) (hbk:Bk w g c 28) (hcs:c.size=L.length) (hmd:MdS w B c G L L.length) (hgB:g<B) (hhi:∀ i,i<L.length->G i<hi) (hn:L.length<=1048576) (hf:L.flatten.length<=1048576) (h0:0<=a) (h1:a<=10000000) :
  Calls Tryz.prog 119 #[.slice (some ⟨g,0,none⟩) L.length L.length, .int .i64 a] w fun e w'=>e= .returned (.int .i64 (a+5*(L.flatten.length:Int)))/\Bz B hi w w':=by
 have HD:Hid (∀ i j,i<L.length->j<L.length->i≠j->G i≠G j):=fun i j hi hj hij e=>by
  rcases Nat.lt_or_gt_of_ne hij with h|h
  ·have:=hmd.1 i j h hj;omega
  ·have:=hmd.1 j i h hi;omega
 have HG:Hid (∀ i,i<L.length->B<=G i/\G i<hi):=fun i hi'=>⟨(hmd.lt hi').1,hhi i hi'⟩;have HM:Hid (MkS w c G L):=fun i hi'=>by obtain ⟨ci,h1,_,h3,h4,_⟩:=hmd.2 i hi';exact ⟨ci,h1,h3,h4⟩
 clear hmd hhi;go_enter Tryz.func119,Tryz.ntmps119;go_wp2_with fail
 go_loopw [1,5] (fun q i wr=>∃ k:Nat,k<=L.length/\i= .int .i64 k/\q= .int .i64 (a+5*((L.take k).flatten.length:Int))/\MkS wr c G L/\Bk wr g c 28/\Bz B hi w wr) (fun _ i _=>L.length-(intOf i).toNat)
 case atStart=>exact ⟨0,by omega,rfl,by simp,HM.out,hbk,Bz.refl _ _ _⟩
 case round =>
  clear HM;obtain ⟨k,hk,rfl,rfl,hmk,hb,hz⟩:=hrel;have HK:=(show Hid (MkS wr c G L) from hmk);have hle:=flat_leZ L k
  by_cases hlt:k<L.length
  ·obtain ⟨ck,h2,h3,h4⟩:=hmk k hlt;have d0:wr.cell? ⟨g,k,none⟩=some (.slice (some ⟨G k,0,none⟩) (gl L k).length (gl L k).length):=hb.cell h2;have ik:(k:Int)<(L.length:Int):=by omega
   have HZ:Hid ((L.take (k+1)).flatten.length=(L.take k).flatten.length+(gl L k).length):=flat_take hlt;have hle2:=flat_leZ L (k+1);rw [HZ.out] at hle2;clear hmk h2;generalize hN:(L.take k).flatten.length=N at *;generalize hQ:(gl L k).length=Q at *;generalize hA:a+5*(N:Int)=A at *;go_wp2_with fail;refine (markRB_any (G k) Q Q ck A _ h3 h4 (Nat.le_refl _) (by omega) (by omega) (by omega)).mono ?_;rintro e w1 ⟨c1,rfl,bm1,hcm1,-,hx1⟩;have HN:Hid (MkS w1 c G L/\Bk w1 g c 28/\Bz B hi w w1):=by
    refine ⟨fun i hi'=>?_,hb.keepx hx1 (by have:=(HG.out k hlt).1;omega),hz.trans (Bz.of_bx hx1 (HG.out k hlt).1 (HG.out k hlt).2)⟩
    by_cases e:i=k
    ·subst e;obtain ⟨ci,q1,_,_⟩:=HK.out i hi';exact ⟨c1,q1,bm1,by rw [hQ];exact hcm1⟩
    ·obtain ⟨ci,q1,q2,q3⟩:=HK.out i hi';exact ⟨ci,q1,q2.keepx hx1 (HD.out i k hi' hlt e),q3⟩
   clear HK bm1 hcm1 hx1 hb hz h3;go_wp2_with fail;go_roundw
   case rel=>exact ⟨k+1,by omega,by go_num,by congr 1;have:=HZ.out;omega,HN.out.1,HN.out.2.1,HN.out.2.2⟩
   case measure=>simp [intOf];omega
  ·obtain rfl:k=L.length:=by omega
   rw [List.take_length];have HZ:=(show Hid (Bz B hi w wr) from hz);clear hz hb hmk HK;go_wp2_with fail;go_ret;exact ⟨rfl,HZ.out⟩
end Go.Proofs.YtbdpcngcbnoioaaGreatDoor
namespace Go.Proofs.YtbdpcngcbnoioaaGreatDoor
open Go.RowKit Go.Shelf
theorem Nx.bz {lo hi:Nat} {w w':World} (h:Nx lo hi w w'):Bz lo hi w w':=⟨h.os,h.tape,h.output,h.size,h.block⟩
theorem Bz.moved {lo hi B Hi:Nat} {w w':World} (h:Bz lo hi w w') (hd:hi<=B\/Hi<=lo):∀ b,b<w.heap.size->B<=b->b<Hi->w'.heap[b]?=w.heap[b]?:=fun b hb h1 h2=>h.block b hb (by omega)
theorem Ly.lyr {w:World} {v:Value} {L:List (List Rw)} (h:Ly w v L):LyR w v L:=by
 obtain ⟨vs,h1,h2,h3⟩:=h;exact ⟨vs,h1,h2,h3⟩
def LsM (w:World) (B hi g:Nat) (L:List (List Rw)):Prop:=∃ (c:Array Value) (G:Nat->Nat),Bk w g c 28/\c.size=L.length/\MdS w (g+1) c G L L.length/\B<=g/\g<hi/\∀ i,i<L.length->G i<hi
theorem LsM.ly {w:World} {B hi g:Nat} {L:List (List Rw)} (h:LsM w B hi g L) (hn:L.length<=1048576) (hl:L.flatten.length<=1048576):Ly w (.slice (some ⟨g,0,none⟩) L.length L.length) L:=by
 obtain ⟨c,G,h1,h2,h3,_⟩:=h;exact h3.ly h1 h2 (by omega) fun l h=>by have:=flat_mem_len h;omega
theorem LsM.moved {w w':World} {B hi g:Nat} {L:List (List Rw)} (h:LsM w B hi g L) (H:∀ b,b<w.heap.size->B<=b->b<hi->w'.heap[b]?=w.heap[b]?):LsM w' B hi g L:=by
 obtain ⟨c,G,h1,h2,h3,h4,h5,h6⟩:=h;refine ⟨c,G,by unfold Bk;rw [H g h1.lt h4 h5];exact h1,h2,⟨h3.1,fun i hi'=>?_⟩,h4,h5,h6⟩;obtain ⟨ci,q1,q2,q3,q4,q5⟩:=h3.2 i hi';exact ⟨ci,q1,q2,by unfold Bk;rw [H (G i) q3.lt (by omega) (h6 i hi')];exact q3,q4,q5⟩
theorem toRowSS_m (v:Value) (L:List (List Rw)) (w:World) (h:Ly w v L) :
  Calls Tryz.prog 112 #[v] w fun e w'=>∃ g:Nat,e= .returned (.slice (some ⟨g,0,none⟩) L.length L.length)/\LsM w' w.heap.size w'.heap.size g L/\Below w.heap.size w w' :=
 (toRowSS_any v L w h).mono fun _ _ ⟨c,G,h1,h2,h3,h4,h5⟩=>⟨_,h1,⟨c,G,h2,h3,h4,Nat.le_refl _,h2.lt,fun _ hi=>(h4.lt hi).2⟩,h5⟩
theorem markSS_m {w:World} {B hi g:Nat} {L:List (List Rw)} (h:LsM w B hi g L) (hn:L.length<=1048576) (hf:L.flatten.length<=1048576) (a:Int) (h0:0<=a) (h1:a<=4000000) :
  Calls Tryz.prog 119 #[.slice (some ⟨g,0,none⟩) L.length L.length, .int .i64 a] w fun e w'=>e= .returned (.int .i64 (a+5*(L.flatten.length:Int)))/\Bz B hi w w':=by
 obtain ⟨c,G,q1,q2,q3,q4,q5,q6⟩:=h;refine (markRowSS_any g (g+1) hi c G L a w q1 q2 q3 (by omega) q6 hn hf h0 (by omega)).mono fun e w' ⟨he,hz⟩=>⟨he,hz.os,hz.tape,hz.output,hz.size,fun k hk hor=>hz.block k hk (by omega)⟩
end Go.Proofs.YtbdpcngcbnoioaaGreatDoor
set_option maxRecDepth 100000
set_option maxHeartbeats 4000000
namespace Go.Proofs.YtbdpcngcbnoioaaGreatDoor
open Go.RowKit Go.Shelf
def TrueR (w:World) (e:Ending) (w':World):Prop:=e= .returned (.bool true)/\Below w.heap.size w w'
theorem eqPlanS_rstep {t:RT} {B B':Nat} {s s':Value} {w:World} (hs:RdS B w t s) (hs':RdS B' w t s')
  (hrec:∀ i,i<t.m->∀ (W:World) (u u':Value),RdS B W (t.f i) u->RdS B' W (t.f i) u'->Calls Tryz.prog 114 #[pl (t.f i).k (t.f i).n u,pl (t.f i).k (t.f i).n u'] W (TrueR W)) :
  Calls Tryz.prog 181 #[s,s'] w (TrueR w):=by
 have HR:=(show Hid _ from hrec);have HS:=(show Hid (RdS B w t s) from hs);have HS':=(show Hid (RdS B' w t s') from hs');obtain ⟨a,c,rfl,hm1,hm2⟩:=hs.sl;obtain ⟨a',c',rfl,_,_⟩:=hs'.sl;have htl:t.m<=9223372036854775807:=by unfold maxLen at hm2;omega
 clear hm1 hm2;clear hs hs' hrec;go_enter Tryz.func181,Tryz.ntmps181;go_wp2_with fail
 go_loopw [5] (fun i wr=>∃ k:Nat,i= .int .i64 k/\k<=t.m/\Below w.heap.size w wr) (fun i _=>t.m-(intOf i).toNat)
 case atStart=>exact ⟨0,rfl,Nat.zero_le _,Below.refl _ _⟩
 case round =>
  obtain ⟨k,rfl,hkl,hb⟩:=hrel
  by_cases hlt:k<t.m
  ·have ik:((k:Int)<(t.m:Int)):=by omega
   obtain ⟨g,off,b2,d2,rfl,hgl,c0,c1,c2,hkid⟩:=(HS.out.keep hb).at hlt;obtain ⟨g',off',b2',d2',rfl,hgl',c0',c1',c2',hkid'⟩:=(HS'.out.keep hb).at hlt;have HK:=(show Hid _ from fun (V:World) (hV:Below wr.heap.size wr V)=>HR.out k hlt V _ _ (hkid.keep hV) (hkid'.keep hV));have hd:Below wr.heap.size wr wr.drew:=(Below.refl _ _).drew;have HW:Hid (∀ V,Below wr.heap.size wr V->(V.cell? ⟨g,off+k*3,none⟩=some (.int .i64 (t.f k).k)/\V.cell? ⟨g,off+k*3+1,none⟩=some (.int .i64 (t.f k).n)/\V.cell? ⟨g,off+k*3+2,none⟩=some (.slice b2 (t.f k).m d2))/\(V.cell? ⟨g',off'+k*3,none⟩=some (.int .i64 (t.f k).k)/\V.cell? ⟨g',off'+k*3+1,none⟩=some (.int .i64 (t.f k).n)/\V.cell? ⟨g',off'+k*3+2,none⟩=some (.slice b2' (t.f k).m d2'))):=fun V hV=>⟨⟨cB hV c0,cB hV c1,cB hV c2⟩,⟨cB hV c0',cB hV c1',cB hV c2'⟩⟩;clear hkid hkid';go_wp2_with fail;clear c0 c1 c2 c0' c1' c2';obtain ⟨⟨i3,i4,i5⟩,i6,i7,i8⟩:=HW.out _ (Below.refl _ _);obtain ⟨⟨j3,j4,j5⟩,j6,j7,j8⟩:=HW.out _ hd
   go_region_law (go_simp;go_at_call 114;refine Calls.mono (HK.out _ hd) ?_;rintro e w7 ⟨rfl,hb7⟩;have hc7:Below wr.heap.size wr w7:=bSz hd hb7)
   all_goals
    clear i3 i4 i5 i6 i7 i8 j3 j4 j5 j6 j7 j8;go_wp2_with fail;go_roundw
    case rel=>exact ⟨k+1,by go_num,by omega,bSz hb hc7⟩
    case measure=>simp [intOf];omega
  ·have hke:k=t.m:=by omega
   have ik:¬ ((k:Int)<(t.m:Int)):=by omega
   go_wp2_with fail;go_ret;exact ⟨rfl,hb⟩
theorem eqPlan_rone {t:RT} {B B':Nat} {s s':Value} {w:World} (hs:RdS B w t s) (hs':RdS B' w t s')
  (hrec:∀ (W:World),RdS B W t s->RdS B' W t s'->Calls Tryz.prog 181 #[s,s'] W (TrueR W)) :
  Calls Tryz.prog 114 #[pl t.k t.n s,pl t.k t.n s'] w (TrueR w):=by
 have bA:Bk ((w.alloc (.cells #[.int .i64 t.k, .int .i64 t.n,s] 25)).alloc (.cells #[.int .i64 t.k, .int .i64 t.n,s'] 25)) w.heap.size #[.int .i64 t.k, .int .i64 t.n,s] 25:=(Bk.new _ _ rfl).alloc _;have bA':Bk ((w.alloc (.cells #[.int .i64 t.k, .int .i64 t.n,s] 25)).alloc (.cells #[.int .i64 t.k, .int .i64 t.n,s'] 25)) (w.heap.size+1) #[.int .i64 t.k, .int .i64 t.n,s'] 25:=Bk.new _ _ (by simp);have hb0:Below w.heap.size w ((w.alloc (.cells #[.int .i64 t.k, .int .i64 t.n,s] 25)).alloc (.cells #[.int .i64 t.k, .int .i64 t.n,s'] 25)):=bAz (bAz (Below.refl _ _) _) _;have HC:=(show Hid _ from hrec _ (hs.keep hb0) (hs'.keep hb0));obtain ⟨a,c,rfl,hm1,hm2⟩:=hs.sl;obtain ⟨a',c',rfl,_,_⟩:=hs'.sl;obtain ⟨x0,x1,x2⟩:=bA.three';obtain ⟨y0,y1,y2⟩:=bA'.three';clear hs hs' hrec bA bA';go_enter Tryz.func114,Tryz.ntmps114;go_wp2_with fail;refine Calls.mono HC.out ?_;rintro e w1 ⟨rfl,hb1⟩;have hbf:=bSz hb0 hb1;go_wp2_with fail;go_ret;exact ⟨rfl,hbf⟩
theorem eqPlanS_rt:∀ (t:RT) {B B':Nat} {s s':Value} {w:World},RdS B w t s->RdS B' w t s'->Calls Tryz.prog 181 #[s,s'] w (TrueR w)
 | .nil,_,_,_,_,_,hs,_=>hs.elim
 | .mk _ _ _ f,_,_,_,_,_,hs,hs'=>eqPlanS_rstep hs hs' fun i _ _ _ _ h h'=>eqPlan_rone (t:=f i) h h' fun _ h h'=>eqPlanS_rt (f i) h h'
theorem eqPlan_rt (t:RT) {B B':Nat} {s s':Value} {w:World} (hs:RdS B w t s) (hs':RdS B' w t s'):Calls Tryz.prog 114 #[pl t.k t.n s,pl t.k t.n s'] w (TrueR w) :=
 eqPlan_rone hs hs' fun _ h h'=>eqPlanS_rt t h h'
end Go.Proofs.YtbdpcngcbnoioaaGreatDoor
set_option maxRecDepth 100000
set_option maxHeartbeats 8000000
namespace Go.Proofs.YtbdpcngcbnoioaaGreatDoor
open Go.RowKit Go.Shelf
theorem LyR.ly {w:World} {v:Value} {L:List (List Rw)} (h:LyR w v L):Ly w v L:=by
 obtain ⟨vs,h1,h2,h3⟩:=h;exact ⟨vs,h1,h2,h3⟩
theorem szSess_rt {t:RT} {sp:Value} {a1:Option Addr} {len cap:Nat} {ns:Nat->Nat} {a2:Option Addr} {m cb:Nat} {a3:Option Addr} {q cd:Nat} {left:Int} {w:World} (hs:RdS 0 w t sp) (h1:LsArg w a1 len cap ns) (h2:TsArg w a2 m cb) (h3:RsArg w a3 q cd) (hl0:0<=left) (hl1:left<=1048576) :
  Calls Tryz.prog 42 #[sv t.k t.n sp (.slice a1 len cap) (.slice a2 m cb) (.slice a3 q cd), .int .i64 left] w fun e w'=>e= .returned (.int .i64 (szV left (t.nds+(len+sumN ns len)+m+q)))/\Below w.heap.size w w':=by
 have HS:=(show Hid (RdS 0 w t sp) from hs);obtain ⟨a0,c0,rfl,_,_⟩:=hs.sl;have bS:Bk (w.alloc (.cells (sc t.k t.n (.slice a0 t.m c0) (.slice a1 len cap) (.slice a2 m cb) (.slice a3 q cd)) 77)) w.heap.size (sc t.k t.n (.slice a0 t.m c0) (.slice a1 len cap) (.slice a2 m cb) (.slice a3 q cd)) 77:=Bk.new _ _ rfl;have hb0:Below w.heap.size w (w.alloc (.cells (sc t.k t.n (.slice a0 t.m c0) (.slice a1 len cap) (.slice a2 m cb) (.slice a3 q cd)) 77)):=bAz (Below.refl _ _) _;have HZ:=(show Hid _ from szPlan_rt t hl0 hl1 (HS.out.keep hb0));have HL:=(show Hid (LsArg w a1 len cap ns) from h1);have ht1:=h2.1;have ht2:=h2.2.1;have hr1:=h3.1;have hr2:=h3.2.1;obtain ⟨x0,x1,x2,x3,x4,x5⟩:=bS.six;have HB:=(show Hid (Bk _ _ _ _) from bS);clear hs h1 h2 h3 bS;go_enter Tryz.func42,Tryz.ntmps42;go_wp2_with fail;generalize (w.alloc (.cells (sc t.k t.n (.slice a0 t.m c0) (.slice a1 len cap) (.slice a2 m cb) (.slice a3 q cd)) 77))=W0 at *;refine Calls.mono HZ.out ?_;rintro e w1 ⟨rfl,hb1⟩;have hbw1:=bSz hb0 hb1;obtain ⟨y0,y1,y2,y3,y4,y5⟩:=(HB.out.keep hb1).six;clear x0 x1 x2 x3 x4 x5 HB HZ hb0 hb1;obtain ⟨nd,hnd⟩:∃ nd:Nat,t.nds=nd:=⟨_,rfl⟩;have HND:=(show Hid (t.nds=nd) from hnd);rw [hnd];clear hnd
 by_cases hq1:left<(nd:Int)
 ·have hz:szN left nd = -1:=by unfold szN;rw [if_pos hq1]
  have HN:Hid (szV left (nd+(len+sumN ns len)+m+q) = -1):=if_pos (by omega);rw [hz];go_wp2_with fail;go_ret;exact ⟨by rw [HND.out,HN.out];rfl,hbw1⟩
 have hz:szN left nd=left-nd:=by unfold szN;rw [if_neg hq1]
 obtain ⟨Z1,hZ1⟩:∃ Z:Int,left-(nd:Int)=Z:=⟨_,rfl⟩;have hz1:¬ (Z1<0):=by omega
 rw [hz,hZ1];go_wp2_with fail;refine (szRowSS_any a1 len cap ns Z1 _ (HL.out.keep hbw1) (by omega) (by omega)).mono ?_;obtain ⟨sn,hsn⟩:∃ sn:Nat,len+sumN ns len=sn:=⟨_,rfl⟩;have HSN:=(show Hid (len+sumN ns len=sn) from hsn);rw [hsn]
 by_cases hq2:Z1<(sn:Int)
 ·have hz2:szV Z1 sn = -1:=if_pos hq2;have HN:Hid (szV left (nd+sn+m+q) = -1):=if_pos (by omega);rw [hz2];rintro e w2 ⟨rfl,hw2⟩;obtain rfl:w1=w2:=hw2.symm;go_wp2_with fail;go_ret;exact ⟨by rw [HND.out,HSN.out,HN.out];rfl,hbw1⟩
 have hz2:szV Z1 sn=Z1-sn:=if_neg hq2;obtain ⟨Z2,hZ2⟩:∃ Z:Int,Z1-(sn:Int)=Z:=⟨_,rfl⟩;have hz3:¬ (Z2<0):=by omega
 rw [hz2,hZ2];rintro e w2 ⟨rfl,hw2⟩;obtain rfl:w1=w2:=hw2.symm;go_wp2_with fail;refine (szTimeS_any a2 m cb Z2 _ ht1 ht2 (by omega) (by omega)).mono ?_
 by_cases hq3:Z2<(m:Int)
 ·have HN:Hid (szV left (nd+sn+m+q) = -1):=if_pos (by omega);rw [if_pos hq3];rintro e w3 ⟨rfl,hw3⟩;obtain rfl:w1=w3:=hw3.symm;go_wp2_with fail;go_ret;exact ⟨by rw [HND.out,HSN.out,HN.out];rfl,hbw1⟩
 rw [if_neg hq3];obtain ⟨Z3,hZ3⟩:∃ Z:Int,Z2-(m:Int)=Z:=⟨_,rfl⟩;have hz4:¬ (Z3<0):=by omega
 rw [hZ3];rintro e w3 ⟨rfl,hw3⟩;obtain rfl:w1=w3:=hw3.symm;go_wp2_with fail;refine (szRowS_any a3 q cd Z3 _ hr1 hr2 (by omega) (by omega)).mono ?_
 by_cases hq4:Z3<(q:Int)
 ·have HN:Hid (szV left (nd+sn+m+q) = -1):=if_pos (by omega);rw [if_pos hq4];rintro e w4 ⟨rfl,hw4⟩;obtain rfl:w1=w4:=hw4.symm;go_wp2_with fail;go_ret;exact ⟨by rw [HND.out,HSN.out,HN.out];rfl,hbw1⟩
 rw [if_neg hq4];have HN:Hid (szV left (nd+sn+m+q)=Z3-(q:Int)):=by show _=_;unfold szV;rw [if_neg (by omega)];omega
 have hz5:¬ (Z3-(q:Int)<0):=by omega
 rintro e w4 ⟨rfl,hw4⟩;obtain rfl:w1=w4:=hw4.symm;go_wp2_with fail;go_ret;exact ⟨by rw [HND.out,HSN.out,HN.out];rfl,hbw1⟩
theorem eqSess_gen {k n:Int} {a0 b0:Option Addr} {m c0 d0:Nat} {si si' sf sf' sd sd':Value} {K:List (List Rw)} {f:LI} {d:List Rw} {w:World}
  (hp:∀ V:World,Below w.heap.size w V->Calls Tryz.prog 114 #[pl k n (.slice a0 m c0),pl k n (.slice b0 m d0)] V fun e w'=>e= .returned (.bool true)/\Below V.heap.size V w')
  (hi:Ly w si K) (hi':Ly w si' K) (hf:Ts w sf f) (hf':Ts w sf' f) (hd:Rs w sd d) (hd':Rs w sd' d) :
  Calls Tryz.prog 44 #[sv k n (.slice a0 m c0) si sf sd,sv k n (.slice b0 m d0) si' sf' sd'] w fun e w'=>e= .returned (.bool true)/\Below w.heap.size w w':=by
 have HP:=(show Hid _ from hp);have HI:=(show Hid (Ly w si K/\Ly w si' K) from ⟨hi,hi'⟩);have HF:=(show Hid (Ts w sf f/\Ts w sf' f) from ⟨hf,hf'⟩);have HD:=(show Hid (Rs w sd d/\Rs w sd' d) from ⟨hd,hd'⟩);obtain ⟨a1,c1,rfl,-⟩:=Ly.open hi;obtain ⟨b1,d1,rfl,-⟩:=Ly.open hi';obtain ⟨a2,c2,rfl,-⟩:=hf;obtain ⟨b2,d2,rfl,-⟩:=hf';obtain ⟨a3,c3,rfl,-⟩:=Rs.open hd;obtain ⟨b3,d3,rfl,-⟩:=Rs.open hd';clear hp hi hi' hd hd';have bi:Bk ((w.alloc (.cells (sc k n (.slice a0 m c0) (.slice a1 K.length c1) (.slice a2 f.length c2) (.slice a3 d.length c3)) 30)).alloc (.cells (sc k n (.slice b0 m d0) (.slice b1 K.length d1) (.slice b2 f.length d2) (.slice b3 d.length d3)) 30)) w.heap.size (sc k n (.slice a0 m c0) (.slice a1 K.length c1) (.slice a2 f.length c2) (.slice a3 d.length c3)) 30:=(Bk.new _ _ rfl).alloc _;have bj:Bk ((w.alloc (.cells (sc k n (.slice a0 m c0) (.slice a1 K.length c1) (.slice a2 f.length c2) (.slice a3 d.length c3)) 30)).alloc (.cells (sc k n (.slice b0 m d0) (.slice b1 K.length d1) (.slice b2 f.length d2) (.slice b3 d.length d3)) 30)) (w.heap.size+1) (sc k n (.slice b0 m d0) (.slice b1 K.length d1) (.slice b2 f.length d2) (.slice b3 d.length d3)) 30:=Bk.new (w:=w.alloc _) _ _ (by simp);have hb0:Below w.heap.size w ((w.alloc (.cells (sc k n (.slice a0 m c0) (.slice a1 K.length c1) (.slice a2 f.length c2) (.slice a3 d.length c3)) 30)).alloc (.cells (sc k n (.slice b0 m d0) (.slice b1 K.length d1) (.slice b2 f.length d2) (.slice b3 d.length d3)) 30)):=bAz (bAz (Below.refl _ _) _) _;have HX:Hid (∀ V:World,Below ((w.alloc (.cells (sc k n (.slice a0 m c0) (.slice a1 K.length c1) (.slice a2 f.length c2) (.slice a3 d.length c3)) 30)).alloc (.cells (sc k n (.slice b0 m d0) (.slice b1 K.length d1) (.slice b2 f.length d2) (.slice b3 d.length d3)) 30)).heap.size ((w.alloc (.cells (sc k n (.slice a0 m c0) (.slice a1 K.length c1) (.slice a2 f.length c2) (.slice a3 d.length c3)) 30)).alloc (.cells (sc k n (.slice b0 m d0) (.slice b1 K.length d1) (.slice b2 f.length d2) (.slice b3 d.length d3)) 30)) V->Bk V w.heap.size (sc k n (.slice a0 m c0) (.slice a1 K.length c1) (.slice a2 f.length c2) (.slice a3 d.length c3)) 30/\Bk V (w.heap.size+1) (sc k n (.slice b0 m d0) (.slice b1 K.length d1) (.slice b2 f.length d2) (.slice b3 d.length d3)) 30):=fun V hV=>⟨bi.keep hV,bj.keep hV⟩;obtain ⟨x0,x1,x2,x3,x4,x5⟩:=bi.six;obtain ⟨y0,y1,y2,y3,y4,y5⟩:=bj.six;have H1:=(show Hid _ from HP.out _ hb0);clear bi bj;go_enter Tryz.func44,Tryz.ntmps44;go_wp2_with fail;generalize ((w.alloc (.cells (sc k n (.slice a0 m c0) (.slice a1 K.length c1) (.slice a2 f.length c2) (.slice a3 d.length c3)) 30)).alloc (.cells (sc k n (.slice b0 m d0) (.slice b1 K.length d1) (.slice b2 f.length d2) (.slice b3 d.length d3)) 30))=W0 at *;refine Calls.mono H1.out ?_;rintro e w1 ⟨rfl,hb1⟩;have hbw1:=bSz hb0 hb1;have H2:=(show Hid _ from eqRowSS_same _ _ K _ (HI.out.1.keep hbw1) (HI.out.2.keep hbw1));obtain ⟨b1',b2'⟩:=HX.out _ hb1;clear x0 x1 x2 x3 x4 x5 y0 y1 y2 y3 y4 y5 H1 HP;obtain ⟨x0,x1,x2,x3,x4,x5⟩:=b1'.six;obtain ⟨y0,y1,y2,y3,y4,y5⟩:=b2'.six;clear b1' b2';go_wp2_with fail;refine Calls.mono H2.out ?_;rintro e w2 ⟨rfl,hb2⟩;have hbw2:=bSz hbw1 hb2;have hc2:=bSz hb1 hb2;have H3:=(show Hid _ from eqTimeS_same _ _ f _ (HF.out.1.keep hbw2) (HF.out.2.keep hbw2));obtain ⟨b1',b2'⟩:=HX.out _ hc2;clear x0 x1 x2 x3 x4 x5 y0 y1 y2 y3 y4 y5 H2 HI hb1 hb2 hbw1;obtain ⟨x0,x1,x2,x3,x4,x5⟩:=b1'.six;obtain ⟨y0,y1,y2,y3,y4,y5⟩:=b2'.six;clear b1' b2';go_wp2_with fail;refine Calls.mono H3.out ?_;rintro e w3 ⟨rfl,hb3⟩;have hbw3:=bSz hbw2 hb3;have hc3:=bSz hc2 hb3;have H4:=(show Hid _ from eqRowS_same _ _ d _ (HD.out.1.keep hbw3) (HD.out.2.keep hbw3));obtain ⟨b1',b2'⟩:=HX.out _ hc3;clear x0 x1 x2 x3 x4 x5 y0 y1 y2 y3 y4 y5 H3 HF hb3 hbw2 hc2;obtain ⟨x0,x1,x2,x3,x4,x5⟩:=b1'.six;obtain ⟨y0,y1,y2,y3,y4,y5⟩:=b2'.six;clear b1' b2';go_wp2_with fail;refine Calls.mono H4.out ?_;rintro e w4 ⟨rfl,hb4⟩;have hbw4:=bSz hbw3 hb4;clear x0 x1 x2 x3 x4 x5 y0 y1 y2 y3 y4 y5 H4 HD;go_wp2_with fail;go_ret;exact ⟨rfl,hbw4⟩
theorem eqSess_rt {s:XS} {sp si sf sd sp' si' sf' sd':Value} {w:World} (h:SesX w sp si sf sd s) (h':SesX w sp' si' sf' sd' s) :
  Calls Tryz.prog 44 #[sv s.t.k s.t.n sp si sf sd,sv s.t.k s.t.n sp' si' sf' sd'] w fun e w'=>e= .returned (.bool true)/\Below w.heap.size w w':=by
 obtain ⟨a0,c0,e0,-⟩:=h.rd.sl;obtain ⟨b0,d0,e0',-⟩:=h'.rd.sl;subst e0 e0';exact eqSess_gen (fun V hV=>eqPlan_rt s.t (h.rd.keep hV) (h'.rd.keep hV)) h.ly.ly h'.ly.ly h.ts h'.ts h.rs h'.rs
end Go.Proofs.YtbdpcngcbnoioaaGreatDoor
