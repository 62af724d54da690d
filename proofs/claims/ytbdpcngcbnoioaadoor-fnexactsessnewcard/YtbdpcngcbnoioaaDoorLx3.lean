import Derived.Test.YtbdpcngcbnoioaaDoorLx2
set_option maxRecDepth 100000
set_option maxHeartbeats 4000000
namespace Go.Proofs.YtbdpcngcbnoioaaDoor
open Go.RowKit Go.Shelf
theorem set2_get {cs:Array Value} {j:Nat} {v0 v1:Value} (a b:Value) (h0:cs[j]?=some v0) (h1:cs[j+1]?=some v1) :
  ((cs.setIfInBounds j a).setIfInBounds (j+1) b)[j]?=some a/\((cs.setIfInBounds j a).setIfInBounds (j+1) b)[j+1]?=some b/\∀ i,i≠j->i≠j+1->((cs.setIfInBounds j a).setIfInBounds (j+1) b)[i]?=cs[i]?:=by
 have l0:=(Array.getElem?_eq_some_iff.1 h0).1;have l1:=(Array.getElem?_eq_some_iff.1 h1).1;refine ⟨?_,?_,fun i hi hi1=>?_⟩
 ·rw [Array.getElem?_setIfInBounds_ne (by omega),Array.getElem?_setIfInBounds_self_of_lt l0]
 ·rw [Array.getElem?_setIfInBounds_self_of_lt (by simpa using l1)]
 ·rw [Array.getElem?_setIfInBounds_ne (by omega),Array.getElem?_setIfInBounds_ne (by omega)]
theorem kdQ_root {p:Nat->Prop} {w:World} {t:PT} {a b a' b':Int} {k:Nat} {s:Value} (h:KdQ p w (numT t a b k) s):KdQ p w (numT t a' b' k) s:=by
 cases t<;>exact h
def MarkPost (p:Nat->Prop) (t:PT) (s:Value) (k:Nat) (w:World) (e:Ending) (w':World):Prop :=
 e= .returned (.int .i64 ((k+2*cntT t:Nat):Int))/\KdQ p w' (numT t t.k t.n k) s/\Px p w w'
theorem markS_step {t:PT} {p:Nat->Prop} {s:Value} {w:World} {k:Nat} (hs:KdQ p w t s) (hk:k+2*cntT t<=1000)
  (hrec:∀ i,i<t.len->∀ (W:World) (u:Value) (pi:Nat->Prop) (q:Nat),KdQ pi W (t.kid i) u->q+2*cntT (t.kid i)<=1000->Calls Tryd.prog 23 #[u, .int .i64 (q:Int)] W (MarkPost pi (t.kid i) u q W)) :
  Calls Tryd.prog 23 #[s, .int .i64 (k:Int)] w (MarkPost p t s k w):=by
 have HR:=(show Hid _ from hrec);have HS:Hid (KdQ p w (mkN t k 0) s):=by rw [mkN_zero];exact hs
 obtain ⟨a,c,rfl⟩:=hs.sl;have htl:=PT.len_le t;clear hs hrec;go_enter Tryd.func23,Tryd.ntmps23;go_wp2_with fail
 go_loopw [1,5] (fun kv iv wr=>∃ i:Nat,kv= .int .i64 (kNo t k i)/\iv= .int .i64 i/\i<=t.len/\Hid (KdQ p wr (mkN t k i) (.slice a t.len c))/\Px p w wr) (fun _ iv _=>t.len-(intOf iv).toNat)
 case atStart=>exact ⟨0,rfl,rfl,Nat.zero_le _,HS,Px.refl _ _⟩
 case round =>
  obtain ⟨i,rfl,rfl,hil,HQ,hpx⟩:=hrel
  by_cases hlt:i<t.len
  ·have ik:((i:Int)<(t.len:Int)):=by omega
   obtain ⟨g,c',cs,v0,v1,sx,pi,e,hp,hb,h0,h1,h2,hkid,hpi,hput⟩:=kdQ_kid HQ.out hlt;obtain ⟨rfl,-,rfl⟩:=Value.slice.inj e;have hkn:=kNo_le t k i hlt;obtain ⟨q,hq⟩:∃ q,kNo t k i=q:=⟨_,rfl⟩;have HKN:Hid (kNo t k (i+1)=q+2+2*cntT (t.kid i)):=by show kNo t k i+2+_=_;rw [hq]
   rw [hq] at hput hkn ⊢;have HPUT:=(show Hid _ from hput);have a0:=hb.cell h0;have f0:=hb.free (i*3);have b1:=hb.set (i*3) (.int .i64 q);have a1:(wr.setCell ⟨g,i*3,none⟩ (.int .i64 q)).cell? ⟨g,i*3+1,none⟩=some v1:=b1.cell (by simp [h1]);have f1:=b1.free (i*3+1);have b2:=b1.set (i*3+1) (.int .i64 ((q:Int)+1));have a2:((wr.setCell ⟨g,i*3,none⟩ (.int .i64 q)).setCell ⟨g,i*3+1,none⟩ (.int .i64 ((q:Int)+1))).cell? ⟨g,i*3+2,none⟩=some sx:=b2.cell (by simp [h2]);have hw1:IntKind.i64.wrap ((q:Int)+1)=(q:Int)+1:=by rw [IntKind.wrap_i64];omega
   have hw2:IntKind.i64.wrap ((q:Int)+1+1)=(q:Int)+2:=by rw [IntKind.wrap_i64];omega
   have hkid2:KdQ pi ((wr.setCell ⟨g,i*3,none⟩ (.int .i64 q)).setCell ⟨g,i*3+1,none⟩ (.int .i64 ((q:Int)+1))) (t.kid i) sx:=hkid.move fun b hb hl=>⟨hb,(Below.heap_setCell _ _ _ _ (hpi b hb).2).trans (Below.heap_setCell _ _ _ _ (hpi b hb).2)⟩;have HC:=(show Hid _ from HR.out i hlt _ sx pi (q+2) hkid2 (by omega));have HB2:Hid (Bk ((wr.setCell ⟨g,i*3,none⟩ (.int .i64 q)).setCell ⟨g,i*3+1,none⟩ (.int .i64 ((q:Int)+1))) g ((cs.setIfInBounds (i*3) (.int .i64 q)).setIfInBounds (i*3+1) (.int .i64 ((q:Int)+1))) 28):=b2;have HCS:=(show Hid _ from And.intro h0 (And.intro h1 h2));have HP:=(show Hid _ from And.intro hp hpi);clear hput hkid hkid2 b1 b2 hb hq h0 h1 h2 hpi hp e;go_wp2_with fail;refine Calls.mono HC.out ?_;rintro e w7 ⟨rfl,hk7,hpx7⟩;have hgl:=HB2.out;have hg7:=hpx7.block g (Bk.lt hgl) (fun h=>(HP.out.2 g h).2 rfl);obtain ⟨s0,s1,s2⟩:=set2_get (.int .i64 (q:Int)) (.int .i64 ((q:Int)+1)) HCS.out.1 HCS.out.2.1;have HN:Hid (KdQ p w7 (mkN t k (i+1)) (.slice (some ⟨g,0,none⟩) t.len c)):=HPUT.out w7 _ (bk_move hgl hg7) s0 s1 s2 (fun b hb hn hne=>((hpx7.block b (by simpa using hb) hn).trans (Below.heap_setCell _ _ _ _ hne)).trans (Below.heap_setCell _ _ _ _ hne)) (kdQ_root hk7);have HX:Hid (Px p w w7):=((hpx.set HP.out.1 _).set HP.out.1 _).trans (hpx7.mono fun b h=>(HP.out.2 b h).1);clear hk7 hpx7 hg7 hgl s0 s1 s2 hpx;go_wp2_with fail;go_roundw
   case rel=>exact ⟨i+1,by rw [HKN.out];first|rfl|(congr 1;omega),by go_num,by omega,HN,HX.out⟩
   case measure=>simp [intOf];omega
  ·have hie:i=t.len:=by omega
   have HIE:=(show Hid (i=t.len) from hie);have ik:¬ ((i:Int)<(t.len:Int)):=by omega
   have HEND:Hid (kNo t k t.len=k+2*cntT t):=kNo_end t k;clear hie;go_wp2_with fail;go_ret;refine ⟨by rw [HIE.out,HEND.out];rfl,?_,hpx⟩;have h:=HQ.out;rw [HIE.out,mkN_end] at h;exact h
theorem markS_any:∀ (t:PT) {p:Nat->Prop} {s:Value} {w:World} {k:Nat},KdQ p w t s->k+2*cntT t<=1000->Calls Tryd.prog 23 #[s, .int .i64 (k:Int)] w (MarkPost p t s k w)
 | .n0 _ _,_,_,_,_,hs,hk=>markS_step hs hk fun i hi=>by simp [PT.len] at hi
 | .n1 _ _ x,_,_,_,_,hs,hk=>markS_step hs hk fun i _ W u pi q h hq=>markS_any x h hq
 | .n2 _ _ x y,_,_,_,_,hs,hk=>markS_step hs hk fun i _ W u pi q h hq=>by
  cases i with
  | zero=>exact markS_any x h hq
  | succ i=>exact markS_any y h hq
theorem markPlan_any {t:PT} {p:Nat->Prop} {s:Value} {w:World} {k:Nat} (hs:KdQ p w t s) (hk:k+2*cntT t<=1000) :
  Calls Tryd.prog 10 #[pl t.k t.n s, .int .i64 (k:Int)] w (MarkPost p t s k w):=by
 have bA:Bk (w.alloc (.cells #[.int .i64 t.k, .int .i64 t.n,s] 28)) w.heap.size #[.int .i64 t.k, .int .i64 t.n,s] 28:=Bk.new _ _ rfl;have hb0:Below w.heap.size w (w.alloc (.cells #[.int .i64 t.k, .int .i64 t.n,s] 28)):=bAz (Below.refl _ _) _;have HC:=(show Hid _ from markS_any t (hs.move fun b hb hl=>⟨hb,hb0.block b hl⟩) hk);obtain ⟨a,c,rfl⟩:=hs.sl;obtain ⟨x0,x1,x2⟩:=bA.three';clear hs bA;go_enter Tryd.func10,Tryd.ntmps10;go_wp2_with fail;refine Calls.mono HC.out ?_;rintro e w1 ⟨rfl,hk1,hx1⟩;have HK:=(show Hid _ from hk1);have HX:Hid (Px p w w1):=(Px.of_below hb0).trans hx1;clear hk1 hx1 hb0;go_wp2_with fail;go_ret;exact ⟨rfl,HK.out,HX.out⟩
def HeldPost (t:PT) (k:Nat) (w:World) (e:Ending) (w':World):Prop:=e= .returned (.int .i64 ((k+2*cntT t:Nat):Int))/\Below w.heap.size w w'
theorem heldS_step {t:PT} {B:Nat} {s:Value} {w:World} {k:Nat} {a0 b0:Int} (hs:KdS B w (numT t a0 b0 k) s) (hk:k+2*cntT t<=1000)
  (hrec:∀ i,i<t.len->∀ (W:World) (u:Value) (q:Nat) (a b:Int),KdS B W (numT (t.kid i) a b q) u->q+2*cntT (t.kid i)<=1000->Calls Tryd.prog 36 #[u, .int .i64 (q:Int)] W (HeldPost (t.kid i) q W)) :
  Calls Tryd.prog 36 #[s, .int .i64 (k:Int)] w (HeldPost t k w):=by
 have HR:=(show Hid _ from hrec);have HS:Hid (KdS B w (numT t a0 b0 k) s):=hs;obtain ⟨a,c,rfl⟩:=hs.sl;rw [numT_len] at HS ⊢;have htl:=PT.len_le t;clear hs hrec;go_enter Tryd.func36,Tryd.ntmps36;go_wp2_with fail
 go_loopw [1,5] (fun kv iv wr=>∃ i:Nat,kv= .int .i64 (kNo t k i)/\iv= .int .i64 i/\i<=t.len/\Below w.heap.size w wr) (fun _ iv _=>t.len-(intOf iv).toNat)
 case atStart=>exact ⟨0,rfl,rfl,Nat.zero_le _,Below.refl _ _⟩
 case round =>
  obtain ⟨i,rfl,rfl,hil,hb⟩:=hrel
  by_cases hlt:i<t.len
  ·have ik:((i:Int)<(t.len:Int)):=by omega
   have hat:=(HS.out.keep hb).at (i:=i) (by rw [numT_len];exact hlt);rw [numT_kid t a0 b0 k i hlt] at hat;obtain ⟨g,off,sx,rfl,hgl,c0,c1,c2,hkid,b2,m2,d2,rfl⟩:=hat;rw [numT_k] at c0;rw [numT_n] at c1;have hkn:=kNo_le t k i hlt;obtain ⟨q,hq⟩:∃ q,kNo t k i=q:=⟨_,rfl⟩;have HKN:Hid (kNo t k (i+1)=q+2+2*cntT (t.kid i)):=by show kNo t k i+2+_=_;rw [hq]
   rw [hq] at hkn c0 c1 hkid ⊢;have hw1:IntKind.i64.wrap ((q:Int)+1)=(q:Int)+1:=by rw [IntKind.wrap_i64];omega
   have hw2:IntKind.i64.wrap ((q:Int)+1+1)=(q:Int)+2:=by rw [IntKind.wrap_i64];omega
   have HC:=(show Hid _ from HR.out i hlt wr _ (q+2) _ _ hkid (by omega));clear hkid hq;go_wp2_with fail;refine Calls.mono HC.out ?_;rintro e w7 ⟨rfl,hb7⟩;have hbw:=bSz hb hb7;have hnn:¬ (((q+2+2*cntT (t.kid i):Nat):Int)<0):=by omega
   clear c0 c1 c2;go_wp2_with fail;go_roundw
   case rel=>exact ⟨i+1,by rw [HKN.out];first|rfl|(congr 1;omega),by go_num,by omega,hbw⟩
   case measure=>simp [intOf];omega
  ·have hie:i=t.len:=by omega
   have HIE:=(show Hid (i=t.len) from hie);have ik:¬ ((i:Int)<(t.len:Int)):=by omega
   have HEND:Hid (kNo t k t.len=k+2*cntT t):=kNo_end t k;clear hie;go_wp2_with fail;go_ret;exact ⟨by rw [HIE.out,HEND.out];rfl,hb⟩
theorem heldS_any:∀ (t:PT) {B:Nat} {s:Value} {w:World} {k:Nat} {a b:Int},KdS B w (numT t a b k) s->k+2*cntT t<=1000->Calls Tryd.prog 36 #[s, .int .i64 (k:Int)] w (HeldPost t k w)
 | .n0 _ _,_,_,_,_,_,_,hs,hk=>heldS_step hs hk fun i hi=>by simp [PT.len] at hi
 | .n1 _ _ x,_,_,_,_,_,_,hs,hk=>heldS_step hs hk fun i _ W u q a b h hq=>heldS_any x h hq
 | .n2 _ _ x y,_,_,_,_,_,_,hs,hk=>heldS_step hs hk fun i _ W u q a b h hq=>by
  cases i with
  | zero=>exact heldS_any x h hq
  | succ i=>exact heldS_any y h hq
theorem heldPlan_any {t:PT} {B:Nat} {s:Value} {w:World} {k:Nat} {a b K N:Int} (hs:KdS B w (numT t a b k) s) (hk:k+2*cntT t<=1000) :
  Calls Tryd.prog 27 #[pl K N s, .int .i64 (k:Int)] w (HeldPost t k w):=by
 have bA:Bk (w.alloc (.cells #[.int .i64 K, .int .i64 N,s] 28)) w.heap.size #[.int .i64 K, .int .i64 N,s] 28:=Bk.new _ _ rfl;have hb0:Below w.heap.size w (w.alloc (.cells #[.int .i64 K, .int .i64 N,s] 28)):=bAz (Below.refl _ _) _;have HC:=(show Hid _ from heldS_any t (hs.keep hb0) hk);obtain ⟨a,c,rfl⟩:=hs.sl;obtain ⟨x0,x1,x2⟩:=bA.three';have hnn:¬ (((k+2*cntT t:Nat):Int)<0):=by omega
 clear hs bA;go_enter Tryd.func27,Tryd.ntmps27;go_wp2_with fail;refine Calls.mono HC.out ?_;rintro e w1 ⟨rfl,hb1⟩;have hbf:=bSz hb0 hb1;go_wp2_with fail;go_ret;exact ⟨rfl,hbf⟩
end Go.Proofs.YtbdpcngcbnoioaaDoor
