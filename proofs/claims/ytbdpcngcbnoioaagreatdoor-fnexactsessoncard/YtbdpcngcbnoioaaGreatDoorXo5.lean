import Derived.Test.YtbdpcngcbnoioaaGreatDoorKq0
import Derived.Test.YtbdpcngcbnoioaaGreatDoorGqa
import Derived.Test.YtbdpcngcbnoioaaGreatDoorFr25
import Derived.Test.YtbdpcngcbnoioaaGreatDoorZm0
import Derived.Test.YtbdpcngcbnoioaaGreatDoorZs1
import Derived.Test.YtbdpcngcbnoioaaGreatDoorGqb
import Derived.Test.YtbdpcngcbnoioaaGreatDoorZe2
import Derived.Test.YtbdpcngcbnoioaaGreatDoorXo2
namespace Go.Proofs.YtbdpcngcbnoioaaGreatDoor
open Go.RowKit Go.Shelf
def cntT:PT->Nat
 | .n0 _ _=>0
 | .n1 _ _ x=>1+cntT x
 | .n2 _ _ x y=>2+cntT x+cntT y
def numT:PT->Int->Int->Nat->PT
 | .n0 _ _,a,b,_=> .n0 a b
 | .n1 _ _ x,a,b,k=> .n1 a b (numT x k ((k:Int)+1) (k+2))
 | .n2 _ _ x y,a,b,k=> .n2 a b (numT x k ((k:Int)+1) (k+2)) (numT y ((k+2+2*cntT x:Nat):Int) (((k+2+2*cntT x:Nat):Int)+1) (k+2+2*cntT x+2))
theorem numT_k (t:PT) (a b:Int) (k:Nat):(numT t a b k).k=a:=by cases t<;>rfl
theorem numT_n (t:PT) (a b:Int) (k:Nat):(numT t a b k).n=b:=by cases t<;>rfl
theorem numT_len (t:PT) (a b:Int) (k:Nat):(numT t a b k).len=t.len:=by cases t<;>rfl
def kNo (t:PT) (k:Nat):Nat->Nat
 | 0=>k
 | i+1=>kNo t k i+2+2*cntT (t.kid i)
theorem kNo_end (t:PT) (k:Nat):kNo t k t.len=k+2*cntT t:=by
 cases t<;>simp [kNo,PT.len,cntT,PT.kid]<;>omega
theorem kNo_le (t:PT) (k i:Nat) (h:i<t.len):kNo t k i+2+2*cntT (t.kid i)<=k+2*cntT t:=by
 cases t with
 | n0=>simp [PT.len] at h
 | n1 a b x =>
  obtain rfl:i=0:=by simp [PT.len] at h;exact h
  simp only [kNo,cntT,PT.kid];omega
 | n2 a b x y =>
  rcases i with _|i
  ·simp only [kNo,cntT,PT.kid];omega
  ·obtain rfl:i=0:=by simp [PT.len] at h;omega
   simp only [kNo,cntT,PT.kid];omega
theorem numT_kid (t:PT) (a b:Int) (k i:Nat) (h:i<t.len):(numT t a b k).kid i=numT (t.kid i) (kNo t k i) ((kNo t k i:Int)+1) (kNo t k i+2):=by
 cases t with
 | n0=>simp [PT.len] at h
 | n1 a b x =>
  obtain rfl:i=0:=by simp [PT.len] at h;exact h
  rfl
 | n2 a b x y =>
  rcases i with _|i
  ·rfl
  ·obtain rfl:i=0:=by simp [PT.len] at h;omega
   rfl
def mkN (t:PT) (k i:Nat):PT:=match t with
 | .n0 a b=> .n0 a b
 | .n1 a b x=> .n1 a b (if 0<i then numT x k ((k:Int)+1) (k+2) else x)
 | .n2 a b x y=> .n2 a b (if 0<i then numT x k ((k:Int)+1) (k+2) else x) (if 1<i then numT y ((k+2+2*cntT x:Nat):Int) (((k+2+2*cntT x:Nat):Int)+1) (k+2+2*cntT x+2) else y)
theorem mkN_zero (t:PT) (k:Nat):mkN t k 0=t:=by cases t<;>rfl
theorem mkN_end (t:PT) (k:Nat):mkN t k t.len=numT t t.k t.n k:=by cases t<;>rfl
structure Px (p:Nat->Prop) (w w':World):Prop where
 os:w'.os=w.os
 tape:w'.tape=w.tape
 output:w'.output=w.output
 size:w.heap.size<=w'.heap.size
 block:∀ b,b<w.heap.size->¬ p b->w'.heap[b]?=w.heap[b]?
theorem Px.refl (p:Nat->Prop) (w:World):Px p w w:=⟨rfl,rfl,rfl,Nat.le_refl _,fun _ _ _=>rfl⟩
theorem Px.trans {p:Nat->Prop} {a b c:World} (h:Px p a b) (h':Px p b c):Px p a c:=⟨h'.os.trans h.os,h'.tape.trans h.tape,h'.output.trans h.output,Nat.le_trans h.size h'.size,fun i hi hp=>(h'.block i (Nat.lt_of_lt_of_le hi h.size) hp).trans (h.block i hi hp)⟩
theorem Px.mono {p q:Nat->Prop} {a b:World} (h:Px p a b) (H:∀ i,p i->q i):Px q a b:=⟨h.os,h.tape,h.output,h.size,fun i hi hq=>h.block i hi fun hp=>hq (H i hp)⟩
theorem Px.set {p:Nat->Prop} {a w:World} (h:Px p a w) {g i:Nat} (hg:p g) (v:Value):Px p a (w.setCell ⟨g,i,none⟩ v) :=
 h.trans ⟨rfl,rfl,rfl,by simp,fun b _ hp=>Below.heap_setCell _ _ _ _ (fun e=>hp (by have e2:b=g:=e;rw [e2];exact hg))⟩
theorem Px.of_below {p:Nat->Prop} {w w':World} (h:Below w.heap.size w w'):Px p w w':=⟨h.os,h.tape,h.output,h.size,fun b hb _=>h.block b hb⟩
theorem Px.below {p:Nat->Prop} {B:Nat} {a w w':World} (h:Px p w w') (h0:Below B a w) (hB:B<=w.heap.size) (H:∀ i,p i->B<=i):Below B a w' :=
 h0.trans ⟨h.os,h.tape,h.output,h.size,fun b hb=>h.block b (by omega) fun hp=>by have:=H b hp;omega⟩
theorem kdQ_kid {t:PT} {k i:Nat} {p:Nat->Prop} {w:World} {s:Value} (h:KdQ p w (mkN t k i) s) (hi:i<t.len) :
  ∃ (g c:Nat) (cs:Array Value) (v0 v1 sx:Value) (pi:Nat->Prop),s= .slice (some ⟨g,0,none⟩) t.len c/\p g/\Bk w g cs 25/\cs[i*3]?=some v0/\cs[i*3+1]?=some v1/\cs[i*3+2]?=some sx/\KdQ pi w (t.kid i) sx/\(∀ b,pi b->p b/\b≠g) /\
   (∀ (w':World) (cs':Array Value),Bk w' g cs' 25->cs'[i*3]?=some (.int .i64 (kNo t k i))->cs'[i*3+1]?=some (.int .i64 ((kNo t k i:Int)+1))->(∀ j,j≠i*3->j≠i*3+1->cs'[j]?=cs[j]?)->(∀ b,b<w.heap.size->¬ pi b->b≠g->w'.heap[b]?=w.heap[b]?) ->
    KdQ pi w' (numT (t.kid i) (kNo t k i) ((kNo t k i:Int)+1) (kNo t k i+2)) sx->KdQ p w' (mkN t k (i+1)) s):=by
 cases t with
 | n0=>simp [PT.len] at hi
 | n1 a b x =>
  obtain rfl:i=0:=by simp [PT.len] at hi;exact hi
  obtain ⟨g,c,cs,sx,e,hp,hb,h0,h1,h2,h3⟩:=h;refine ⟨g,c,cs,_,_,sx,_,e,hp,hb,h0,h1,h2,h3,fun b hb=>hb,fun w' cs' hb' c0 c1 cj _ hk=>⟨g,c,cs',sx,e,hp,hb',?_,?_,by rw [cj 2 (by omega) (by omega)];exact h2,?_⟩⟩
  ·rw [if_pos (by omega),numT_k];exact c0
  ·rw [if_pos (by omega),numT_n];exact c1
  ·rw [if_pos (by omega)];exact hk
 | n2 a b x y =>
  obtain ⟨g,c,cs,sx,sy,m,e,hp,hb,h0,h1,h2,h3,h4,h5,hx,hy⟩:=h
  rcases i with _|i
  ·refine ⟨g,c,cs,_,_,sx,_,e,hp,hb,h0,h1,h2,hx,fun b hb=>hb.1,fun w' cs' hb' c0 c1 cj hr hk=>⟨g,c,cs',sx,sy,m,e,hp,hb',?_,?_,by rw [cj 2 (by omega) (by omega)];exact h2,?_,?_,by rw [cj 5 (by omega) (by omega)];exact h5,?_,?_⟩⟩
   ·rw [if_pos (by omega),numT_k];exact c0
   ·rw [if_pos (by omega),numT_n];exact c1
   ·rw [cj 3 (by omega) (by omega)];exact h3
   ·rw [cj 4 (by omega) (by omega)];exact h4
   ·rw [if_pos (by omega)];exact hk
   ·exact hy.move fun b hb hl=>⟨hb,hr b hl (fun h=>by have h6:=h.2;have h7:=hb.2;omega) hb.1.2⟩
  ·obtain rfl:i=0:=by simp [PT.len] at hi;omega
   refine ⟨g,c,cs,_,_,sy,_,e,hp,hb,h3,h4,h5,hy,fun b hb=>hb.1,fun w' cs' hb' c0 c1 cj hr hk=>⟨g,c,cs',sx,sy,m,e,hp,hb',?_,?_,by rw [cj 2 (by omega) (by omega)];exact h2,?_,?_,by rw [cj 5 (by omega) (by omega)];exact h5,?_,?_⟩⟩
   ·rw [cj 0 (by omega) (by omega)];exact h0
   ·rw [cj 1 (by omega) (by omega)];exact h1
   ·rw [if_pos (by omega),numT_k];exact c0
   ·rw [if_pos (by omega),numT_n];exact c1
   ·exact hx.move fun b hb hl=>⟨hb,hr b hl (fun h=>by have h6:=h.2;have h7:=hb.2;omega) hb.1.2⟩
   ·rw [if_pos (by omega)];exact hk
end Go.Proofs.YtbdpcngcbnoioaaGreatDoor
set_option maxRecDepth 100000
set_option maxHeartbeats 4000000
namespace Go.Proofs.YtbdpcngcbnoioaaGreatDoor
open Go.RowKit Go.Shelf
theorem set2_get {cs:Array Value} {j:Nat} {v0 v1:Value} (a b:Value) (h0:cs[j]?=some v0) (h1:cs[j+1]?=some v1) :
  ((cs.setIfInBounds j a).setIfInBounds (j+1) b)[j]?=some a/\((cs.setIfInBounds j a).setIfInBounds (j+1) b)[j+1]?=some b/\∀ i,i≠j->i≠j+1->((cs.setIfInBounds j a).setIfInBounds (j+1) b)[i]?=cs[i]?:=by
 have l0:=(Array.getElem?_eq_some_iff.1 h0).1;have l1:=(Array.getElem?_eq_some_iff.1 h1).1;refine ⟨?_,?_,fun i hi hi1=>?_⟩
 ·rw [Array.getElem?_setIfInBounds_ne (by omega),Array.getElem?_setIfInBounds_self_of_lt l0]
 ·rw [Array.getElem?_setIfInBounds_self_of_lt (by simpa using l1)]
 ·rw [Array.getElem?_setIfInBounds_ne (by omega),Array.getElem?_setIfInBounds_ne (by omega)]
theorem kdQ_root {p:Nat->Prop} {w:World} {t:PT} {a b a' b':Int} {k:Nat} {s:Value} (h:KdQ p w (numT t a b k) s):KdQ p w (numT t a' b' k) s:=by
 cases t<;>exact h
def MarkPost (p:Nat->Prop) (t:PT) (s:Value) (k:Nat) (w:World) (e:Ending) (w':World):Prop :=
 e= .returned (.int .i64 ((k+2*cntT t:Nat):Int))/\KdQ p w' (numT t t.k t.n k) s/\Px p w w'
theorem markS_step {t:PT} {p:Nat->Prop} {s:Value} {w:World} {k:Nat} (hs:KdQ p w t s) (hk:k+2*cntT t<=1000)
  (hrec:∀ i,i<t.len->∀ (W:World) (u:Value) (pi:Nat->Prop) (q:Nat),KdQ pi W (t.kid i) u->q+2*cntT (t.kid i)<=1000->Calls Tryz.prog 182 #[u, .int .i64 (q:Int)] W (MarkPost pi (t.kid i) u q W)) :
  Calls Tryz.prog 182 #[s, .int .i64 (k:Int)] w (MarkPost p t s k w):=by
 have HR:=(show Hid _ from hrec);have HS:Hid (KdQ p w (mkN t k 0) s):=by rw [mkN_zero];exact hs
 obtain ⟨a,c,rfl⟩:=hs.sl;have htl:=PT.len_le t;clear hs hrec;go_enter Tryz.func182,Tryz.ntmps182;go_wp2_with fail
 go_loopw [1,5] (fun kv iv wr=>∃ i:Nat,kv= .int .i64 (kNo t k i)/\iv= .int .i64 i/\i<=t.len/\Hid (KdQ p wr (mkN t k i) (.slice a t.len c))/\Px p w wr) (fun _ iv _=>t.len-(intOf iv).toNat)
 case atStart=>exact ⟨0,rfl,rfl,Nat.zero_le _,HS,Px.refl _ _⟩
 case round =>
  obtain ⟨i,rfl,rfl,hil,HQ,hpx⟩:=hrel
  by_cases hlt:i<t.len
  ·have ik:((i:Int)<(t.len:Int)):=by omega
   obtain ⟨g,c',cs,v0,v1,sx,pi,e,hp,hb,h0,h1,h2,hkid,hpi,hput⟩:=kdQ_kid HQ.out hlt;obtain ⟨rfl,-,rfl⟩:=Value.slice.inj e;have hkn:=kNo_le t k i hlt;obtain ⟨q,hq⟩:∃ q,kNo t k i=q:=⟨_,rfl⟩;have HKN:Hid (kNo t k (i+1)=q+2+2*cntT (t.kid i)):=by show kNo t k i+2+_=_;rw [hq]
   rw [hq] at hput hkn ⊢;have HPUT:=(show Hid _ from hput);have a0:=hb.cell h0;have f0:=hb.free (i*3);have b1:=hb.set (i*3) (.int .i64 q);have a1:(wr.setCell ⟨g,i*3,none⟩ (.int .i64 q)).cell? ⟨g,i*3+1,none⟩=some v1:=b1.cell (by simp [h1]);have f1:=b1.free (i*3+1);have b2:=b1.set (i*3+1) (.int .i64 ((q:Int)+1));have a2:((wr.setCell ⟨g,i*3,none⟩ (.int .i64 q)).setCell ⟨g,i*3+1,none⟩ (.int .i64 ((q:Int)+1))).cell? ⟨g,i*3+2,none⟩=some sx:=b2.cell (by simp [h2]);have hw1:IntKind.i64.wrap ((q:Int)+1)=(q:Int)+1:=by rw [IntKind.wrap_i64];omega
   have hw2:IntKind.i64.wrap ((q:Int)+1+1)=(q:Int)+2:=by rw [IntKind.wrap_i64];omega
   have hkid2:KdQ pi ((wr.setCell ⟨g,i*3,none⟩ (.int .i64 q)).setCell ⟨g,i*3+1,none⟩ (.int .i64 ((q:Int)+1))) (t.kid i) sx:=hkid.move fun b hb hl=>⟨hb,(Below.heap_setCell _ _ _ _ (hpi b hb).2).trans (Below.heap_setCell _ _ _ _ (hpi b hb).2)⟩;have HC:=(show Hid _ from HR.out i hlt _ sx pi (q+2) hkid2 (by omega));have HB2:Hid (Bk ((wr.setCell ⟨g,i*3,none⟩ (.int .i64 q)).setCell ⟨g,i*3+1,none⟩ (.int .i64 ((q:Int)+1))) g ((cs.setIfInBounds (i*3) (.int .i64 q)).setIfInBounds (i*3+1) (.int .i64 ((q:Int)+1))) 25):=b2;have HCS:=(show Hid _ from And.intro h0 (And.intro h1 h2));have HP:=(show Hid _ from And.intro hp hpi);clear hput hkid hkid2 b1 b2 hb hq h0 h1 h2 hpi hp e;go_wp2_with fail;refine Calls.mono HC.out ?_;rintro e w7 ⟨rfl,hk7,hpx7⟩;have hgl:=HB2.out;have hg7:=hpx7.block g (Bk.lt hgl) (fun h=>(HP.out.2 g h).2 rfl);obtain ⟨s0,s1,s2⟩:=set2_get (.int .i64 (q:Int)) (.int .i64 ((q:Int)+1)) HCS.out.1 HCS.out.2.1;have HN:Hid (KdQ p w7 (mkN t k (i+1)) (.slice (some ⟨g,0,none⟩) t.len c)):=HPUT.out w7 _ (bk_move hgl hg7) s0 s1 s2 (fun b hb hn hne=>((hpx7.block b (by simpa using hb) hn).trans (Below.heap_setCell _ _ _ _ hne)).trans (Below.heap_setCell _ _ _ _ hne)) (kdQ_root hk7);have HX:Hid (Px p w w7):=((hpx.set HP.out.1 _).set HP.out.1 _).trans (hpx7.mono fun b h=>(HP.out.2 b h).1);clear hk7 hpx7 hg7 hgl s0 s1 s2 hpx;go_wp2_with fail;go_roundw
   case rel=>exact ⟨i+1,by rw [HKN.out];first|rfl|(congr 1;omega),by go_num,by omega,HN,HX.out⟩
   case measure=>simp [intOf];omega
  ·have hie:i=t.len:=by omega
   have HIE:=(show Hid (i=t.len) from hie);have ik:¬ ((i:Int)<(t.len:Int)):=by omega
   have HEND:Hid (kNo t k t.len=k+2*cntT t):=kNo_end t k;clear hie;go_wp2_with fail;go_ret;refine ⟨by rw [HIE.out,HEND.out];rfl,?_,hpx⟩;have h:=HQ.out;rw [HIE.out,mkN_end] at h;exact h
theorem markS_any:∀ (t:PT) {p:Nat->Prop} {s:Value} {w:World} {k:Nat},KdQ p w t s->k+2*cntT t<=1000->Calls Tryz.prog 182 #[s, .int .i64 (k:Int)] w (MarkPost p t s k w)
 | .n0 _ _,_,_,_,_,hs,hk=>markS_step hs hk fun i hi=>by simp [PT.len] at hi
 | .n1 _ _ x,_,_,_,_,hs,hk=>markS_step hs hk fun i _ W u pi q h hq=>markS_any x h hq
 | .n2 _ _ x y,_,_,_,_,hs,hk=>markS_step hs hk fun i _ W u pi q h hq=>by
  cases i with
  | zero=>exact markS_any x h hq
  | succ i=>exact markS_any y h hq
theorem markPlan_any {t:PT} {p:Nat->Prop} {s:Value} {w:World} {k:Nat} (hs:KdQ p w t s) (hk:k+2*cntT t<=1000) :
  Calls Tryz.prog 118 #[pl t.k t.n s, .int .i64 (k:Int)] w (MarkPost p t s k w):=by
 have bA:Bk (w.alloc (.cells #[.int .i64 t.k, .int .i64 t.n,s] 25)) w.heap.size #[.int .i64 t.k, .int .i64 t.n,s] 25:=Bk.new _ _ rfl;have hb0:Below w.heap.size w (w.alloc (.cells #[.int .i64 t.k, .int .i64 t.n,s] 25)):=bAz (Below.refl _ _) _;have HC:=(show Hid _ from markS_any t (hs.move fun b hb hl=>⟨hb,hb0.block b hl⟩) hk);obtain ⟨a,c,rfl⟩:=hs.sl;obtain ⟨x0,x1,x2⟩:=bA.three';clear hs bA;go_enter Tryz.func118,Tryz.ntmps118;go_wp2_with fail;refine Calls.mono HC.out ?_;rintro e w1 ⟨rfl,hk1,hx1⟩;have HK:=(show Hid _ from hk1);have HX:Hid (Px p w w1):=(Px.of_below hb0).trans hx1;clear hk1 hx1 hb0;go_wp2_with fail;go_ret;exact ⟨rfl,HK.out,HX.out⟩
def HeldPost (t:PT) (k:Nat) (w:World) (e:Ending) (w':World):Prop:=e= .returned (.int .i64 ((k+2*cntT t:Nat):Int))/\Below w.heap.size w w'
theorem heldS_step {t:PT} {B:Nat} {s:Value} {w:World} {k:Nat} {a0 b0:Int} (hs:KdS B w (numT t a0 b0 k) s) (hk:k+2*cntT t<=1000)
  (hrec:∀ i,i<t.len->∀ (W:World) (u:Value) (q:Nat) (a b:Int),KdS B W (numT (t.kid i) a b q) u->q+2*cntT (t.kid i)<=1000->Calls Tryz.prog 183 #[u, .int .i64 (q:Int)] W (HeldPost (t.kid i) q W)) :
  Calls Tryz.prog 183 #[s, .int .i64 (k:Int)] w (HeldPost t k w):=by
 have HR:=(show Hid _ from hrec);have HS:Hid (KdS B w (numT t a0 b0 k) s):=hs;obtain ⟨a,c,rfl⟩:=hs.sl;rw [numT_len] at HS ⊢;have htl:=PT.len_le t;clear hs hrec;go_enter Tryz.func183,Tryz.ntmps183;go_wp2_with fail
 go_loopw [1,5] (fun kv iv wr=>∃ i:Nat,kv= .int .i64 (kNo t k i)/\iv= .int .i64 i/\i<=t.len/\Below w.heap.size w wr) (fun _ iv _=>t.len-(intOf iv).toNat)
 case atStart=>exact ⟨0,rfl,rfl,Nat.zero_le _,Below.refl _ _⟩
 case round =>
  obtain ⟨i,rfl,rfl,hil,hb⟩:=hrel
  by_cases hlt:i<t.len
  ·have ik:((i:Int)<(t.len:Int)):=by omega
   have hat:=(HS.out.keep hb).at (i:=i) (by rw [numT_len];exact hlt);rw [numT_kid t a0 b0 k i hlt] at hat;obtain ⟨g,off,sx,rfl,hgl,c0,c1,c2,hkid,b2,m2,d2,rfl⟩:=hat;rw [numT_k] at c0;rw [numT_n] at c1;have hkn:=kNo_le t k i hlt;obtain ⟨q,hq⟩:∃ q,kNo t k i=q:=⟨_,rfl⟩;have HKN:Hid (kNo t k (i+1)=q+2+2*cntT (t.kid i)):=by show kNo t k i+2+_=_;rw [hq]
   rw [hq] at hkn c0 c1 hkid ⊢;have hw1:IntKind.i64.wrap ((q:Int)+1)=(q:Int)+1:=by rw [IntKind.wrap_i64];omega
   have hw2:IntKind.i64.wrap ((q:Int)+1+1)=(q:Int)+2:=by rw [IntKind.wrap_i64];omega
   have HC:=(show Hid _ from HR.out i hlt wr _ (q+2) _ _ hkid (by omega));clear hkid hq;go_wp2_with fail;refine Calls.mono HC.out ?_;rintro e w7 ⟨rfl,hb7⟩;have hbw:=bSz hb hb7;have hnn:¬ (((q+2+2*cntT (t.kid i):Nat):Int)<0):=by omega
   clear c0 c1 c2;go_wp2_with fail;go_roundw
   case rel=>exact ⟨i+1,by rw [HKN.out];first|rfl|(congr 1;omega),by go_num,by omega,hbw⟩
   case measure=>simp [intOf];omega
  ·have hie:i=t.len:=by omega
   have HIE:=(show Hid (i=t.len) from hie);have ik:¬ ((i:Int)<(t.len:Int)):=by omega
   have HEND:Hid (kNo t k t.len=k+2*cntT t):=kNo_end t k;clear hie;go_wp2_with fail;go_ret;exact ⟨by rw [HIE.out,HEND.out];rfl,hb⟩
theorem heldS_any:∀ (t:PT) {B:Nat} {s:Value} {w:World} {k:Nat} {a b:Int},KdS B w (numT t a b k) s->k+2*cntT t<=1000->Calls Tryz.prog 183 #[s, .int .i64 (k:Int)] w (HeldPost t k w)
 | .n0 _ _,_,_,_,_,_,_,hs,hk=>heldS_step hs hk fun i hi=>by simp [PT.len] at hi
 | .n1 _ _ x,_,_,_,_,_,_,hs,hk=>heldS_step hs hk fun i _ W u q a b h hq=>heldS_any x h hq
 | .n2 _ _ x y,_,_,_,_,_,_,hs,hk=>heldS_step hs hk fun i _ W u q a b h hq=>by
  cases i with
  | zero=>exact heldS_any x h hq
  | succ i=>exact heldS_any y h hq
theorem heldPlan_any {t:PT} {B:Nat} {s:Value} {w:World} {k:Nat} {a b K N:Int} (hs:KdS B w (numT t a b k) s) (hk:k+2*cntT t<=1000) :
  Calls Tryz.prog 120 #[pl K N s, .int .i64 (k:Int)] w (HeldPost t k w):=by
 have bA:Bk (w.alloc (.cells #[.int .i64 K, .int .i64 N,s] 25)) w.heap.size #[.int .i64 K, .int .i64 N,s] 25:=Bk.new _ _ rfl;have hb0:Below w.heap.size w (w.alloc (.cells #[.int .i64 K, .int .i64 N,s] 25)):=bAz (Below.refl _ _) _;have HC:=(show Hid _ from heldS_any t (hs.keep hb0) hk);obtain ⟨a,c,rfl⟩:=hs.sl;obtain ⟨x0,x1,x2⟩:=bA.three';have hnn:¬ (((k+2*cntT t:Nat):Int)<0):=by omega
 clear hs bA;go_enter Tryz.func120,Tryz.ntmps120;go_wp2_with fail;refine Calls.mono HC.out ?_;rintro e w1 ⟨rfl,hb1⟩;have hbf:=bSz hb0 hb1;go_wp2_with fail;go_ret;exact ⟨rfl,hbf⟩
end Go.Proofs.YtbdpcngcbnoioaaGreatDoor
namespace Go.Proofs.YtbdpcngcbnoioaaGreatDoor
open Go.RowKit Go.Shelf
theorem KdQ.typ {w:World}:∀ {t:PT} {p:Nat->Prop} {s:Value},KdQ p w t s->KdQ (fun g=>p g/\∃ cs:Array Value,Bk w g cs 25) w t s
 | .n0 _ _,_,_,h=>h
 | .n1 _ _ _,_,_,⟨g,c,cs,sx,e,hp,hb,h1,h2,h3,h4⟩=>⟨g,c,cs,sx,e,⟨hp,cs,hb⟩,hb,h1,h2,h3,(KdQ.typ h4).wk fun _ h=>⟨⟨h.1.1,h.2⟩,h.1.2⟩⟩
 | .n2 _ _ _ _,_,_,⟨g,c,cs,sx,sy,m,e,hp,hb,h1,h2,h3,h4,h5,h6,h7,h8⟩=>⟨g,c,cs,sx,sy,m,e,⟨hp,cs,hb⟩,hb,h1,h2,h3,h4,h5,h6,(KdQ.typ h7).wk fun _ h=>⟨⟨⟨h.1.1.1,h.2⟩,h.1.1.2⟩,h.1.2⟩,(KdQ.typ h8).wk fun _ h=>⟨⟨⟨h.1.1.1,h.2⟩,h.1.1.2⟩,h.1.2⟩⟩
theorem bk_apart {w:World} {g:Nat} {c d:Array Value} {t u:TypeId} (h:Bk w g c t) (k:Bk w g d u) (hn:t≠u):False:=by
 unfold Bk at h k;rw [h] at k;injection k with k;injection k with _ k;exact hn k
theorem time_blkQ {w:World} {B:Nat} {v:Value} {l:LI} (h:Own w B v l) {q:Nat} (e:v.ownBlock=some q):∃ c:Array Value,Bk w q c 32:=by
 rcases own_open h with ⟨rfl,_⟩|⟨g,cap,c,rfl,_,hb,_⟩
 ·cases e
 ·obtain rfl:g=q:=by simpa [Value.ownBlock] using e
  exact ⟨c,hb⟩
theorem markO_q {B:Nat} {v:Value} {l:LI} {w:World} (h:Own w B v l) (hl:l.length<=2097152) (a:Int) (h0:0<=a) (h1:a<=1000000000) :
  Calls Tryz.prog 50 #[v, .int .i64 a] w fun e w'=>e= .returned (.int .i64 (a+2*(l.length:Int)))/\Own w' B v (marksL a l.length)/\(w'=w\/∃ (g:Nat) (c:Array Value),B<=g/\Bk w g c 32/\Bx g w w'):=by
 rcases own_open h with ⟨rfl,rfl⟩|⟨g,cap,c,rfl,hg,hb,hs,hc,hm,_⟩
 ·refine (markN_any a w).mono ?_;rintro e w' ⟨rfl,rfl⟩;exact ⟨by simp,h, .inl rfl⟩
 ·refine (markB_any g l.length cap c a w hb hs hc hl h0 h1).mono ?_;rintro e w' ⟨c',rfl,hb',hs',hf',hx⟩;have:=own_of_fill (B:=B) hb' (F:=marksL a l.length) (by rw [marksL_len];exact hf') hs' (by rw [marksL_len];exact hc) hm hg;rw [marksL_len] at this;exact ⟨rfl,this, .inr ⟨g,c,hg,hb,hx⟩⟩
end Go.Proofs.YtbdpcngcbnoioaaGreatDoor
namespace Go.Proofs.YtbdpcngcbnoioaaGreatDoor
open Go.RowKit Go.Shelf
structure EachO (w:World) (B:Nat) (vs:List Value) (L:List (List Rw)):Prop where
 len:vs.length=L.length
 own:∀ (i:Nat) (u:Value) (l:List Rw),vs[i]?=some u->L[i]?=some l->OwnR w B u l
 few:∀ l∈L,l.length<=1000
 nd:(vs.filterMap Value.ownBlock).Nodup
theorem EachO.each {w:World} {B:Nat} {vs:List Value} {L:List (List Rw)} (h:EachO w B vs L):Each w vs L :=
 ⟨h.len,fun i u l h1 h2=>OwnR.rs (h.own i u l h1 h2) (by have:=h.few l (List.mem_of_getElem? h2);omega)⟩
theorem EachO.blk {w:World} {B:Nat} {vs:List Value} {L:List (List Rw)} (h:EachO w B vs L) {q:Nat} (hq:q∈vs.filterMap Value.ownBlock):∃ c:Array Value,Bk w q c 55/\B<=q:=by
 obtain ⟨u,hu,e⟩:=List.mem_filterMap.1 hq;obtain ⟨i,hi,e2⟩:=List.getElem_of_mem hu;have h1:vs[i]?=some u:=by rw [List.getElem?_eq_getElem hi,e2]
 have h2:=gl_at (L:=L) (i:=i) (by rw [<- h.len];exact hi);have ho:=h.own i u _ h1 h2
 rcases ownK_open ho rowC_len with ⟨rfl,_⟩|⟨g,cap,c,rfl,hg,hb,_⟩
 ·simp [Value.ownBlock] at e
 ·simp [Value.ownBlock] at e;subst e;exact ⟨c,hb,hg⟩
structure Kg (gs:List Nat) (w w':World):Prop where
 os:w'.os=w.os
 tape:w'.tape=w.tape
 output:w'.output=w.output
 size:w.heap.size<=w'.heap.size
 block:∀ k,k<w.heap.size->k ∉ gs->w'.heap[k]?=w.heap[k]?
theorem Kg.refl (gs:List Nat) (w:World):Kg gs w w:=⟨rfl,rfl,rfl,Nat.le_refl _,fun _ _ _=>rfl⟩
theorem Kg.below {gs:List Nat} {B:Nat} {w a b:World} (h:Kg gs a b) (hw:Below B w a) (hB:B<=a.heap.size) (hg:∀ g∈gs,B<=g):Below B w b :=
 ⟨h.os.trans hw.os,h.tape.trans hw.tape,h.output.trans hw.output,Nat.le_trans hw.size h.size,fun k hk=>(h.block k (by omega) (fun e=>by have:=hg k e;omega)).trans (hw.block k hk)⟩
theorem row_not_rows {w:World} {q:Nat} {c d:Array Value} (h:Bk w q c 55) (k:Bk w q d 28):False:=by
 unfold Bk at h k;rw [h] at k;cases k
end Go.Proofs.YtbdpcngcbnoioaaGreatDoor
namespace Go.Proofs.YtbdpcngcbnoioaaGreatDoor
open Go.RowKit Go.Shelf
theorem flat_len_le (L:List (List Rw)) (k:Nat):(L.take k).flatten.length<=L.flatten.length:=by
 conv=>rhs;rw [<- List.take_append_drop k L]
 rw [List.flatten_append,List.length_append];omega
end Go.Proofs.YtbdpcngcbnoioaaGreatDoor
namespace Go.Proofs.YtbdpcngcbnoioaaGreatDoor
open Go.RowKit Go.Shelf
end Go.Proofs.YtbdpcngcbnoioaaGreatDoor
namespace Go.Proofs.YtbdpcngcbnoioaaGreatDoor
open Go.RowKit Go.Shelf
end Go.Proofs.YtbdpcngcbnoioaaGreatDoor
namespace Go.Proofs.YtbdpcngcbnoioaaGreatDoor
open Go.RowKit Go.Shelf
end Go.Proofs.YtbdpcngcbnoioaaGreatDoor
namespace Go.Proofs.YtbdpcngcbnoioaaGreatDoor
open Go.RowKit Go.Shelf
end Go.Proofs.YtbdpcngcbnoioaaGreatDoor
namespace Go.Proofs.YtbdpcngcbnoioaaGreatDoor
open Go.RowKit Go.Shelf
end Go.Proofs.YtbdpcngcbnoioaaGreatDoor
namespace Go.Proofs.YtbdpcngcbnoioaaGreatDoor
open Go.RowKit Go.Shelf
end Go.Proofs.YtbdpcngcbnoioaaGreatDoor
namespace Go.Proofs.YtbdpcngcbnoioaaGreatDoor
open Go.RowKit Go.Shelf
attribute [local go_sem ↓] Go.wp_at_zero Go.wp_at_succ
theorem ownV_slice {w:World} {B:Nat} {v:Value} {l:List Value} (h:OwnV w B v l):∃ a c,v= .slice a l.length c:=by
 rcases ownK_open h valC_len with ⟨rfl,rfl⟩|⟨g,cap,c,rfl,_⟩
 ·exact ⟨_,_,rfl⟩
 ·exact ⟨_,_,rfl⟩
end Go.Proofs.YtbdpcngcbnoioaaGreatDoor
namespace Go.Proofs.YtbdpcngcbnoioaaGreatDoor
open Go.RowKit Go.Shelf
end Go.Proofs.YtbdpcngcbnoioaaGreatDoor
set_option maxRecDepth 100000
set_option maxHeartbeats 8000000
namespace Go.Proofs.YtbdpcngcbnoioaaGreatDoor
open Go.RowKit Go.Shelf
def K1 (o:Option Nat) (w w':World):Prop:=Kg o.toList w w'
theorem K1.of_bx {g:Nat} {w w':World} (h:Bx g w w'):K1 (some g) w w':=⟨h.os,h.tape,h.output,h.size,fun k hk hn=>h.block k hk (by simpa using hn)⟩
theorem markRO_x {B:Nat} {v:Value} {l:List Rw} {w:World} (h:OwnR w B v l) (hl:l.length<=2097152) (a:Int) (h0:0<=a) (h1:a<=1000000000) :
  Calls Tryz.prog 51 #[v, .int .i64 a] w fun e w'=>e= .returned (.int .i64 (a+5*(l.length:Int)))/\OwnR w' B v (marksR a l.length)/\K1 v.ownBlock w w':=by
 rcases ownK_open h rowC_len with ⟨rfl,rfl⟩|⟨g,cap,c,rfl,hg,hb,hs,hc,hm,_⟩
 ·refine (markRN_any a w).mono ?_;rintro e w' ⟨rfl,rfl⟩;exact ⟨by simp,h,Kg.refl _ _⟩
 ·refine (markRB_any g l.length cap c a w hb hs hc hl h0 h1).mono ?_;rintro e w' ⟨c',rfl,hb',hs',hf',hx⟩;have:=ownK_of_fill (B:=B) hb' (l:=marksR a l.length) (by rw [marksR_len];exact hf') rowC_len hs' (by rw [marksR_len];exact hc) hm hg;simp only [marksR_len] at this;exact ⟨rfl,by simpa only [marksR_len] using this,K1.of_bx hx⟩
theorem EachO.apart {w:World} {B:Nat} {vs:List Value} {L:List (List Rw)} (h:EachO w B vs L) {i k q:Nat} {u v:Value} (hu:vs[i]?=some u) (hv:vs[k]?=some v) (hne:i≠k) (h1:u.ownBlock=some q) (h2:v.ownBlock=some q):False:=by
 have hp:=List.pairwise_filterMap.1 h.nd;obtain ⟨hi,e1⟩:=List.getElem?_eq_some_iff.1 hu;obtain ⟨hk,e2⟩:=List.getElem?_eq_some_iff.1 hv;rw [List.pairwise_iff_getElem] at hp
 rcases Nat.lt_or_gt_of_ne hne with hlt|hlt
 ·exact hp i k hi hk hlt q (by rw [e1];exact h1) q (by rw [e2];exact h2) rfl
 ·exact hp k i hk hi hlt q (by rw [e2];exact h2) q (by rw [e1];exact h1) rfl
theorem EachO.upd {w w1:World} {B:Nat} {vs:List Value} {L:List (List Rw)} (h:EachO w B vs L) {k:Nat} {v:Value} {m:List Rw} (hv:vs[k]?=some v) (ho:OwnR w1 B v m) (hm:m.length<=1000) (hk:K1 v.ownBlock w w1):EachO w1 B vs (L.set k m):=by
 refine ⟨by rw [h.len,List.length_set],fun i u l h1 h2=>?_,fun l hl=>?_,h.nd⟩
 ·by_cases e:i=k
  ·subst e;have hlt:i<L.length:=by rw [<- h.len];exact (List.getElem?_eq_some_iff.1 hv).1
   rw [List.getElem?_set_self hlt] at h2;rw [hv] at h1;cases h1;cases h2;exact ho
  ·rw [List.getElem?_set_ne (fun e2=>e e2.symm)] at h2;have hu:=h.own i u l h1 h2;refine oAz hu fun q eq=>hk.block q (oT hu q eq) fun hq=>?_;exact h.apart h1 hv e eq (by simpa using hq)
 ·rcases List.mem_or_eq_of_mem_set hl with hl|rfl
  ·exact h.few l hl
  ·exact hm
theorem gl_set_ne {L:List (List Rw)} {i k:Nat} {m:List Rw} (h:i≠k):gl (L.set k m) i=gl L i:=by
 unfold gl;rw [List.getD_eq_getElem?_getD,List.getD_eq_getElem?_getD,List.getElem?_set_ne (fun e=>h e.symm)]
theorem gl_set_at {L:List (List Rw)} {k:Nat} {m:List Rw} (h:k<L.length):gl (L.set k m) k=m:=by
 unfold gl;rw [List.getD_eq_getElem?_getD,List.getElem?_set_self h];rfl
def preN (L:List (List Rw)) (i:Nat):Nat:=(L.take i).flatten.length
structure Mkd (a:Int) (L L':List (List Rw)) (k:Nat):Prop where
 len:L'.length=L.length
 done:∀ i,i<k->gl L' i=marksR (a+5*(preN L i:Int)) (gl L i).length
 rest:∀ i,k<=i->gl L' i=gl L i
theorem Mkd.same {a:Int} {L L':List (List Rw)} {k i:Nat} (h:Mkd a L L' k):(gl L' i).length=(gl L i).length:=by
 by_cases hi:i<k
 ·rw [h.done i hi,marksR_len]
 ·rw [h.rest i (by omega)]
theorem Mkd.step {a:Int} {L L':List (List Rw)} {k:Nat} (h:Mkd a L L' k) (hk:k<L.length):Mkd a L (L'.set k (marksR (a+5*(preN L k:Int)) (gl L k).length)) (k+1):=by
 refine ⟨by rw [List.length_set,h.len],fun i hi=>?_,fun i hi=>by rw [gl_set_ne (by omega)];exact h.rest i (by omega)⟩
 by_cases e:i=k
 ·subst e;rw [gl_set_at (by rw [h.len];exact hk)]
 ·rw [gl_set_ne e];exact h.done i (by omega)
theorem own_rows_block {w:World} {B:Nat} {v:Value} {l:List Value} (h:OwnV w B v l) {q:Nat} (e:v.ownBlock=some q):∃ c:Array Value,Bk w q c 28:=by
 rcases ownK_open h valC_len with ⟨rfl,_⟩|⟨g,cap,c,rfl,_,hb,_⟩
 ·simp [Value.ownBlock] at e
 ·simp [Value.ownBlock] at e;subst e;exact ⟨c,hb⟩
theorem own_row_block {w:World} {B:Nat} {v:Value} {l:List Rw} (h:OwnR w B v l) {q:Nat} (e:v.ownBlock=some q):∃ c:Array Value,Bk w q c 55:=by
 rcases ownK_open h rowC_len with ⟨rfl,_⟩|⟨g,cap,c,rfl,_,hb,_⟩
 ·simp [Value.ownBlock] at e
 ·simp [Value.ownBlock] at e;subst e;exact ⟨c,hb⟩
theorem K1.below {o:Option Nat} {B:Nat} {w a b:World} (h:K1 o a b) (hw:Below B w a) (hB:B<=a.heap.size) (hg:∀ q,o=some q->B<=q):Below B w b:=Kg.below h hw hB (fun g hg'=>hg g (by simpa using hg'))
theorem heldSS_any (lv:Value) (L L':List (List Rw)) (a:Int) (w:World) (h:Ly w lv L') (hm:Mkd a L L' L.length) (hn:L.length<=1000) (hf:L.flatten.length<=1000000) (h0:0<=a) (h1:a<=1000) :
  Calls Tryz.prog 121 #[lv, .int .i64 a] w fun e w'=>e= .returned (.int .i64 (a+5*(L.flatten.length:Int)))/\Below w.heap.size w w':=by
 obtain ⟨aL,cL,rfl,hc,hmx,hn2,hcells⟩:=Ly.open h;unfold maxLen at hmx;rw [hm.len] at hc hn2 hcells ⊢;have HC:=(show Hid _ from hcells);have HM:=(show Hid (Mkd a L L' L.length) from hm);clear h hcells hm;go_enter Tryz.func121,Tryz.ntmps121;go_wp2_with fail
 go_loopw [1,5] (fun q i wr=>∃ k:Nat,k<=L.length/\i= .int .i64 k/\q= .int .i64 (a+5*(preN L k:Int))/\Below w.heap.size w wr) (fun _ i _=>L.length-(intOf i).toNat)
 case atStart=>exact ⟨0,by omega,rfl,by simp [preN],Below.refl _ _⟩
 case round =>
  obtain ⟨k,hk,rfl,rfl,hb⟩:=hrel
  by_cases hlt:k<L.length
  ·obtain ⟨g,off,ad,cp,rfl,hg,c0,hR⟩:=HC.out k hlt;rw [HM.out.done k hlt] at c0 hR;rw [marksR_len] at c0 hR;have q0:=cB hb c0;have R1:=hR.keep hb;have ik:(k:Int)<(L.length:Int):=by omega
   have hpre:preN L (k+1)=preN L k+(gl L k).length:=flat_take hlt;have HP:=(show Hid _ from hpre);have hpl:preN L (k+1)<=L.flatten.length:=flat_len_le L (k+1);rw [hpre] at hpl;clear c0 hR hpre;generalize hN:preN L k=N at *;generalize hQ:(gl L k).length=Q at *;generalize hA:a+5*(N:Int)=A at *;have hA0:¬ (A+5*(Q:Int)<0):=by omega
   go_wp2_with fail;refine (heldR_any _ Q A _ R1 (by omega) (by omega)).mono ?_;rintro e w1 ⟨rfl,hb1⟩;have hb2:=bSz hb hb1;go_wp2_with fail;go_roundw
   case rel=>exact ⟨k+1,by omega,by go_num,by congr 1;have:=HP.out;omega,hb2⟩
   case measure=>simp [intOf];omega
  ·obtain rfl:k=L.length:=by omega
   have HPN:Hid (preN L L.length=L.flatten.length):=by show _=_;unfold preN;rw [List.take_length]
   rw [HPN.out];go_wp2_with fail;go_ret;exact ⟨rfl,hb⟩
end Go.Proofs.YtbdpcngcbnoioaaGreatDoor
set_option maxRecDepth 100000
set_option maxHeartbeats 16000000
namespace Go.Proofs.YtbdpcngcbnoioaaGreatDoor
open Go.RowKit Go.Shelf
theorem markSS_ownQ (lv:Value) (vs:List Value) (L:List (List Rw)) (a:Int) (B:Nat) (w:World) (ho:OwnV w B lv vs) (he:EachO w B vs L) (hB:B<=w.heap.size) (hn:L.length<=1000) (hf:L.flatten.length<=1000000) (h0:0<=a) (h1:a<=1000) :
  Calls Tryz.prog 119 #[lv, .int .i64 a] w fun e w'=>e= .returned (.int .i64 (a+5*(L.flatten.length:Int)))/\(∃ L',Mkd a L L' L.length/\EachO w' B vs L')/\OwnV w' B lv vs/\(∀ q,q<w.heap.size->q ∉ vs.filterMap Value.ownBlock->w'.heap[q]?=w.heap[q]?)/\w.heap.size<=w'.heap.size/\Below B w w':=by
 have hvl:=he.len;obtain ⟨ax,cx,rfl⟩:=ownV_slice ho;rw [hvl] at ho ⊢;have HO:=(show Hid (OwnV w B (.slice ax L.length cx) vs) from ho);have HE:=(show Hid (EachO w B vs L) from he);have HVL:=(show Hid (vs.length=L.length) from hvl);clear ho he hvl;go_enter Tryz.func119,Tryz.ntmps119;go_wp2_with fail
 go_loopw [1,5] (fun q i wr=>∃ (k:Nat) (L':List (List Rw)),k<=L.length/\i= .int .i64 k/\q= .int .i64 (a+5*(preN L k:Int))/\Mkd a L L' k/\EachO wr B vs L'/\OwnV wr B (.slice ax L.length cx) vs/\(∀ q,q<w.heap.size->q ∉ vs.filterMap Value.ownBlock->wr.heap[q]?=w.heap[q]?)/\w.heap.size<=wr.heap.size/\Below B w wr) (fun _ i _=>L.length-(intOf i).toNat)
 case atStart=>exact ⟨0,L,by omega,rfl,by simp [preN],⟨rfl,fun i hi=>by omega,fun i _=>rfl⟩,HE.out,HO.out,fun q _ _=>rfl,Nat.le_refl _,Below.refl _ _⟩
 case round =>
  clear HE HO;obtain ⟨k,L',hk,rfl,rfl,hmk,hea,hov,htm,hsz,hb⟩:=hrel;have HM:=(show Hid (Mkd a L L' k) from hmk);have HEA:=(show Hid (EachO wr B vs L') from hea);have HOV:=(show Hid (OwnV wr B (.slice ax L.length cx) vs) from hov);have HTM:=(show Hid (∀ q,q<w.heap.size->q ∉ vs.filterMap Value.ownBlock->wr.heap[q]?=w.heap[q]?) from htm)
  by_cases hlt:k<L.length
  ·have hv:vs[k]?=some (vs[k]'(by have:=HVL.out;omega)):=List.getElem?_eq_getElem _;have hown:=hea.own k _ (gl L' k) hv (gl_at (by rw [hmk.len];exact hlt));have hlen:(gl L' k).length=(gl L k).length:=hmk.same;have hfew:=hea.few _ (gl_mem (L:=L') (i:=k) (by rw [hmk.len];exact hlt));obtain ⟨ad,cp,ev,-⟩:=Rs.open (OwnR.rs hown (by omega));rw [hlen] at ev;rw [ev] at hv hown;have HV:=(show Hid (vs[k]?=some (.slice ad (gl L k).length cp)) from hv);have HW:=(show Hid (OwnR wr B (.slice ad (gl L k).length cp) (gl L' k)) from hown);obtain ⟨gq,d0⟩:∃ gq,ax=some ⟨gq,0,none⟩/\wr.cell? ⟨gq,k,none⟩=some (.slice ad (gl L k).length cp):=by
    rcases ownK_open hov valC_len with ⟨_,e⟩|⟨g,cap,c,e,_,hbk,_,_,_,hfill⟩
    ·have:=HVL.out;rw [e] at this;simp at this;omega
    ·rw [HVL.out] at e;cases e;refine ⟨g,rfl,?_⟩;have:=hfill k _ (by have:=HVL.out;omega) hv 0 (by omega);rw [Nat.mul_one,Nat.add_zero] at this;exact hbk.cell (by simpa using this)
   obtain ⟨rfl,d0⟩:=d0;have ik:(k:Int)<(L.length:Int):=by omega
   have hpre:preN L (k+1)=preN L k+(gl L k).length:=flat_take hlt;have HP:=(show Hid _ from hpre);have hpl:preN L (k+1)<=L.flatten.length:=flat_len_le L (k+1);rw [hpre] at hpl;rw [hlen] at hfew;have HMS:=(show Hid _ from hmk.step hlt);clear hmk hea hov htm hv hown ev hlen hpre;generalize hN:preN L k=N at *;generalize hQ:(gl L k).length=Q at *;generalize hA:a+5*(N:Int)=A at *;go_wp2_with fail;refine (markRO_x HW.out (by rw [HM.out.same,hQ];omega) A (by omega) (by omega)).mono ?_;rw [HM.out.same,hQ];rintro e w1 ⟨rfl,own1,hk1⟩;have HN:Hid (EachO w1 B vs (L'.set k (marksR A Q))/\OwnV w1 B (.slice (some ⟨gq,0,none⟩) L.length cx) vs/\(∀ q,q<w.heap.size->q ∉ vs.filterMap Value.ownBlock->w1.heap[q]?=w.heap[q]?)/\w.heap.size<=w1.heap.size/\Below B w w1):=by
    refine ⟨HEA.out.upd HV.out own1 (by rw [marksR_len];omega) hk1,oAz HOV.out fun q e=>hk1.block q (oT HOV.out q e) fun hq=>?_,fun q hl hq=>?_,Nat.le_trans hsz hk1.size,hk1.below hb (by omega) (fun q e=>oB HW.out q e)⟩
    ·obtain ⟨c1,b1⟩:=own_rows_block HOV.out e;obtain ⟨c2,b2⟩:=own_row_block HW.out (show _=some q by simpa using hq);exact row_not_rows b2 b1
    ·rw [<- HTM.out q hl hq];refine hk1.block q (by omega) fun hq2=>hq ?_;exact List.mem_filterMap.2 ⟨_,List.mem_of_getElem? HV.out,by simpa using hq2⟩
   clear own1 hk1 HW HEA HOV HTM hb;go_wp2_with fail;go_roundw
   case rel=>exact ⟨k+1,_,by omega,by go_num,by congr 1;have:=HP.out;omega,HMS.out,HN.out.1,HN.out.2.1,HN.out.2.2.1,HN.out.2.2.2.1,HN.out.2.2.2.2⟩
   case measure=>simp [intOf];omega
  ·obtain rfl:k=L.length:=by omega
   have HPN:Hid (preN L L.length=L.flatten.length):=by show _=_;unfold preN;rw [List.take_length]
   clear hmk hea hov htm;rw [HPN.out];go_wp2_with fail;go_ret;exact ⟨rfl,⟨L',HM.out,HEA.out⟩,HOV.out,HTM.out,hsz,hb⟩
theorem EoQ.each {w:World} {B:Nat} {vs:List Value} {K:List (List Rw)} (h:EoQ w B vs K) (hK:∀ l∈K,l.length<=1000):EachO w B vs K:=⟨h.1.1,h.1.2.1,hK,h.2⟩
theorem EachO.moved {w w':World} {B:Nat} {vs:List Value} {L:List (List Rw)} (h:EachO w B vs L) (H:∀ q∈vs.filterMap Value.ownBlock,w'.heap[q]?=w.heap[q]?):EachO w' B vs L :=
 ⟨h.len,fun i u l h1 h2=>oAz (h.own i u l h1 h2) fun q e=>H q (List.mem_filterMap.2 ⟨u,List.mem_of_getElem? h1,e⟩),h.few,h.nd⟩
theorem plan_typ {w:World} {b:Nat} {c:Array Value} {ty:TypeId} (h:Bk w b c ty) (hn:ty≠25):∀ cs:Array Value,¬ Bk w b cs 25:=fun _ hc=>bk_apart h hc hn
structure NextK (W:World) (B m4 m7 m9:Nat) (sp si sf sd mv:Value) (t:PT) (K:List (List Rw)) (n d:Nat) (A:Int) (m:List Rw):Prop where
 n1:B<=m4
 n2:m4<=m7
 n3:m7<=m9
 kd:KdQ (fun z=>B<=z/\z<m4) W (numT t t.k t.n 1) sp
 ly:∃ vs K',OwnV W B si vs/\EachO W B vs K'/\Mkd ((1+2*cntT t:Nat):Int) K K' K.length/\∀ z∈vs.filterMap Value.ownBlock,z<m4
 ts:Own W B sf (marksL (((1+2*cntT t:Nat):Int)+5*(K.flatten.length:Int)) n)
 rs:OwnR W m7 sd (marksR (((1+2*cntT t:Nat):Int)+5*(K.flatten.length:Int)+2*(n:Int)) d)
 ms:OwnR W m9 mv m
 rl:∀ z,sd.ownBlock=some z->z<m9
 eA:A=((1+2*cntT t:Nat):Int)+5*(K.flatten.length:Int)+2*(n:Int)+5*(d:Int)
structure FewN (t:PT) (K:List (List Rw)) (f:LI) (d m:List Rw):Prop where
 t:cntT t<=30
 k:K.length<=2
 l:∀ l∈K,l.length<=400
 f:f.length<=1000
 d:d.length<=400
 m:m.length<=400
theorem FewN.flat {t:PT} {K:List (List Rw)} {f:LI} {d m:List Rw} (h:FewN t K f d m):K.flatten.length<=800:=by
 have hk:=h.k;have hl:=h.l
 match K,hk,hl with
 | [],_,_=>simp
 | [a],_,hl=>have:=hl a (by simp);simp;omega
 | [a,b],_,hl=>have:=hl a (by simp);have:=hl b (by simp);simp;omega
theorem ownVR_blk {w:World} {B:Nat} {v:Value} {l:List Value} (h:OwnV w B v l) {q:Nat} (e:v.ownBlock=some q):∃ c:Array Value,Bk w q c 28:=own_rows_block h e
theorem row_blk {w:World} {B:Nat} {v:Value} {l:List Rw} (h:OwnR w B v l) {q:Nat} (e:v.ownBlock=some q):∃ c:Array Value,Bk w q c 55:=own_row_block h e
theorem markSess_nm {w:World} {B m4 m7 m9:Nat} {t:PT} {a0 a1 a2 a3:Option Addr} {c0 c1 c2 c3:Nat} {mv:Value} {K:List (List Rw)} {f:LI} {d m:List Rw} (h:NextM w B m4 m7 m9 (.slice a0 t.len c0) (.slice a1 K.length c1) (.slice a2 f.length c2) (.slice a3 d.length c3) mv t K f d m) (hw:FewN t K f d m) (hB:B<=w.heap.size) :
  Calls Tryz.prog 49 #[sv t.k t.n (.slice a0 t.len c0) (.slice a1 K.length c1) (.slice a2 f.length c2) (.slice a3 d.length c3), .int .i64 1] w fun e w'=>∃ A:Int,e= .returned (.int .i64 A)/\0<=A/\A<=100000/\NextK w' B m4 m7 m9 (.slice a0 t.len c0) (.slice a1 K.length c1) (.slice a2 f.length c2) (.slice a3 d.length c3) mv t K f.length d.length A m/\Below B w w'/\(∀ (b:Nat) (c:Array Value) (ty:TypeId),Bk w b c ty->ty≠25->ty≠32->ty≠55->Bk w' b c ty):=by
 have HG:=(show Hid _ from h);have hcn:=hw.t;have hfl:=hw.flat;have hfn:=hw.f;have hdn:=hw.d;have hkn:=hw.k;have HW:=(show Hid (FewN t K f d m) from hw);have bS:Bk (w.alloc (.cells (sc t.k t.n (.slice a0 t.len c0) (.slice a1 K.length c1) (.slice a2 f.length c2) (.slice a3 d.length c3)) 30)) w.heap.size (sc t.k t.n (.slice a0 t.len c0) (.slice a1 K.length c1) (.slice a2 f.length c2) (.slice a3 d.length c3)) 30:=Bk.new _ _ rfl;have hb0:Below w.heap.size w (w.alloc (.cells (sc t.k t.n (.slice a0 t.len c0) (.slice a1 K.length c1) (.slice a2 f.length c2) (.slice a3 d.length c3)) 30)):=bAz (Below.refl _ _) _;have HQ:Hid (KdQ (fun g=>((B<=g/\g<m4)/\g<w.heap.size)/\∃ cs:Array Value,Bk w g cs 25) (w.alloc (.cells (sc t.k t.n (.slice a0 t.len c0) (.slice a1 K.length c1) (.slice a2 f.length c2) (.slice a3 d.length c3)) 30)) t (.slice a0 t.len c0)):=(h.kd.move (q:=fun g=>(B<=g/\g<m4)/\g<w.heap.size) (w':=w) fun g hg hl=>⟨⟨hg,hl⟩,rfl⟩).typ.move fun g hg hl=>⟨hg,hb0.block g hl⟩;have H1:=(show Hid _ from markPlan_any (k:=1) HQ.out (by omega));have HB0:=(show Hid _ from hb0);obtain ⟨x0,x1,x2,x3,x4,x5⟩:=bS.six;have HBS:=(show Hid (Bk _ _ _ _) from bS);have n1:=h.n1;have n2:=h.n2;have n3:=h.n3;clear h hw bS hb0;go_enter Tryz.func49,Tryz.ntmps49;go_wp2_with fail;generalize (w.alloc (.cells (sc t.k t.n (.slice a0 t.len c0) (.slice a1 K.length c1) (.slice a2 f.length c2) (.slice a3 d.length c3)) 30))=W0 at *;refine Calls.mono H1.out ?_;rintro e w1 ⟨rfl,hk1,hp1⟩;have hs0:=HB0.out.size;have HE:Hid (∀ b,b<w.heap.size->(∀ cs:Array Value,¬ Bk w b cs 25)->w1.heap[b]?=w.heap[b]?):=fun b hb hn=>(hp1.block b (by omega) (fun h=>by obtain ⟨_,cs,hc⟩:=h;exact hn cs hc)).trans (HB0.out.block b hb);have HBX:Hid (Bk w1 w.heap.size (sc t.k t.n (.slice a0 t.len c0) (.slice a1 K.length c1) (.slice a2 f.length c2) (.slice a3 d.length c3)) 30):=bk_move HBS.out (hp1.block _ HBS.out.lt (fun h=>by have:=h.1.2;omega));have HBT:Hid (∀ (b:Nat) (c:Array Value) (ty:TypeId),Bk w b c ty->ty≠25->Bk w1 b c ty):=fun b c ty hb hn=>bk_move hb (HE.out b hb.lt (plan_typ hb hn));have HK1:Hid (KdQ (fun g=>(B<=g/\g<m4)/\g<w.heap.size) w1 (numT t t.k t.n 1) (.slice a0 t.len c0)):=hk1.wk fun g hg=>hg.1;have HB1:Hid (Below B w w1):=hp1.below (HB0.out.mono hB) (by omega) (fun i hi=>hi.1.1.1);obtain ⟨vs,hv1,hv2,hv3⟩:=HG.out.ly;have HV1:Hid (OwnV w1 B (.slice a1 K.length c1) vs):=oAz hv1 fun q e=>by
  obtain ⟨c,hc⟩:=ownVR_blk hv1 e;exact HE.out q hc.lt (plan_typ hc (by decide))
 have HV2:Hid (EachO w1 B vs K):=(hv2.each fun l hl=>by have:=HW.out.l l hl;omega).moved fun q hq=>by
  obtain ⟨c,hc,_⟩:=hv2.blk hq;exact HE.out q hc.lt (plan_typ hc (by decide))
 have HV3:=(show Hid (∀ z∈vs.filterMap Value.ownBlock,z<m4) from hv3);have HO1:Hid (Own w1 B (.slice a2 f.length c2) f):=oAz HG.out.ts fun q e=>by
  obtain ⟨c,hc⟩:=time_blkQ HG.out.ts e;exact HE.out q hc.lt (plan_typ hc (by decide))
 have HR1:Hid (OwnR w1 m7 (.slice a3 d.length c3) d):=oAz HG.out.rs fun q e=>by
  obtain ⟨c,hc⟩:=row_blk HG.out.rs e;exact HE.out q hc.lt (plan_typ hc (by decide))
 have HM1:Hid (OwnR w1 m9 mv m):=oAz HG.out.ms fun q e=>by
  obtain ⟨c,hc⟩:=row_blk HG.out.ms e;exact HE.out q hc.lt (plan_typ hc (by decide))
 have hs1:=HB1.out.size;have H2:=(show Hid _ from markSS_ownQ (.slice a1 K.length c1) vs K ((1+2*cntT t:Nat):Int) B w1 HV1.out HV2.out (by omega) (by omega) (by omega) (by omega) (by omega));clear x0 x1 x2 x3 x4 x5 H1 hk1 hp1 HE HQ HBS hv1 hv2 hv3;obtain ⟨x0,x1,x2,x3,x4,x5⟩:=HBX.out.six;go_wp2_with fail;refine Calls.mono H2.out ?_;rintro e w2 ⟨rfl,⟨K',hmk,hea⟩,hov,hup,hsz2,hb2⟩;have HUP:=(show Hid (∀ q,q<w1.heap.size->q ∉ vs.filterMap Value.ownBlock->w2.heap[q]?=w1.heap[q]?) from hup);have HRW:Hid (∀ q∈vs.filterMap Value.ownBlock,∃ c:Array Value,Bk w1 q c 55):=fun q hq=>by
  obtain ⟨c,hc,_⟩:=HV2.out.blk hq;exact ⟨c,hc⟩
 have HBT2:Hid (∀ (b:Nat) (c:Array Value) (ty:TypeId),Bk w1 b c ty->ty≠55->Bk w2 b c ty):=fun b c ty hb hn=>bk_move hb (HUP.out b hb.lt fun hq=>by
  obtain ⟨c',hc'⟩:=HRW.out b hq;exact bk_apart hb hc' hn)
 have HBX2:Hid (Bk w2 w.heap.size (sc t.k t.n (.slice a0 t.len c0) (.slice a1 K.length c1) (.slice a2 f.length c2) (.slice a3 d.length c3)) 30):=HBT2.out _ _ _ HBX.out (by decide);have HK2:Hid (KdQ (fun g=>(B<=g/\g<m4)/\g<w.heap.size) w2 (numT t t.k t.n 1) (.slice a0 t.len c0)):=(KdQ.typ HK1.out).move fun g hg hl=>⟨hg.1,by
  obtain ⟨_,cs,hc⟩:=hg;exact HUP.out g hl fun hq=>by
   obtain ⟨c',hc'⟩:=HRW.out g hq;exact bk_apart hc hc' (by decide)⟩
 have HO2:Hid (Own w2 B (.slice a2 f.length c2) f):=oAz HO1.out fun q e=>by
  obtain ⟨c,hc⟩:=time_blkQ HO1.out e;exact HUP.out q hc.lt fun hq=>by
   obtain ⟨c',hc'⟩:=HRW.out q hq;exact bk_apart hc hc' (by decide)
 have HR2:Hid (OwnR w2 m7 (.slice a3 d.length c3) d):=oAz HR1.out fun q e=>HUP.out q (oT HR1.out q e) fun hq=>by
  have h1:=HV3.out q hq;have h2:=oB HR1.out q e;omega
 have HM2:Hid (OwnR w2 m9 mv m):=oAz HM1.out fun q e=>HUP.out q (oT HM1.out q e) fun hq=>by
  have h1:=HV3.out q hq;have h2:=oB HM1.out q e;omega
 have HEA:=(show Hid (Mkd ((1+2*cntT t:Nat):Int) K K' K.length/\EachO w2 B vs K'/\OwnV w2 B (.slice a1 K.length c1) vs) from ⟨hmk,hea,hov⟩);have HB2:Hid (Below B w w2):=HB1.out.trans hb2;obtain ⟨A1,hA1⟩:∃ A1:Int,((1+2*cntT t:Nat):Int)+5*(K.flatten.length:Int)=A1:=⟨_,rfl⟩;have HA1:=(show Hid (((1+2*cntT t:Nat):Int)+5*(K.flatten.length:Int)=A1) from hA1);have hA1b:0<=A1/\A1<=10000:=by omega
 rw [hA1];have H3:=(show Hid _ from markO_q HO2.out (by omega) A1 (by omega) (by omega));clear x0 x1 x2 x3 x4 x5 H2 hmk hea hov hup hb2 HUP HBX HK1 HO1 HR1 HM1 HV1 HV2 HB1 hA1;obtain ⟨x0,x1,x2,x3,x4,x5⟩:=HBX2.out.six;go_wp2_with fail;refine Calls.mono H3.out ?_;rintro e w3 ⟨rfl,ow3,hor⟩;have HS3:Hid (w2.heap.size<=w3.heap.size):=by
  rcases hor with h|⟨g,c,_,_,hx⟩
  ·show w2.heap.size<=_;rw [h];exact Nat.le_refl _
  ·exact hx.size
 have HE3:Hid (∀ b,b<w2.heap.size->(∀ cs:Array Value,¬ Bk w2 b cs 32)->w3.heap[b]?=w2.heap[b]?):=fun b hb hn=>by
  rcases hor with h|⟨g,c,_,hg,hx⟩
  ·rw [h]
  ·exact hx.block b hb fun e=>by subst e;exact hn c hg
 have HB3:Hid (Below B w w3):=by
  rcases hor with h|⟨g,c,hg,hgb,hx⟩
  ·rw [h];exact HB2.out
  ·have hs2:=HB2.out.size;exact hx.below HB2.out (by omega) hg
 have HBT3:Hid (∀ (b:Nat) (c:Array Value) (ty:TypeId),Bk w2 b c ty->ty≠32->Bk w3 b c ty):=fun b c ty hb hn=>bk_move hb (HE3.out b hb.lt fun cs hc=>bk_apart hb hc hn);have HBX3:Hid (Bk w3 w.heap.size (sc t.k t.n (.slice a0 t.len c0) (.slice a1 K.length c1) (.slice a2 f.length c2) (.slice a3 d.length c3)) 30):=HBT3.out _ _ _ HBX2.out (by decide);have HK3:Hid (KdQ (fun g=>(B<=g/\g<m4)/\g<w.heap.size) w3 (numT t t.k t.n 1) (.slice a0 t.len c0)):=(KdQ.typ HK2.out).move fun g hg hl=>⟨hg.1,by
  obtain ⟨_,cs,hc⟩:=hg;exact HE3.out g hl fun cs' hc'=>bk_apart hc hc' (by decide)⟩
 have HEA3:Hid (EachO w3 B vs K'/\OwnV w3 B (.slice a1 K.length c1) vs):=⟨HEA.out.2.1.moved fun q hq=>by
   obtain ⟨c,hc,_⟩:=HEA.out.2.1.blk hq;exact HE3.out q hc.lt fun cs hc'=>bk_apart hc hc' (by decide),oAz HEA.out.2.2 fun q e=>by
   obtain ⟨c,hc⟩:=ownVR_blk HEA.out.2.2 e;exact HE3.out q hc.lt fun cs hc'=>bk_apart hc hc' (by decide)⟩
 have HR3:Hid (OwnR w3 m7 (.slice a3 d.length c3) d):=oAz HR2.out fun q e=>by
  obtain ⟨c,hc⟩:=row_blk HR2.out e;exact HE3.out q hc.lt fun cs hc'=>bk_apart hc hc' (by decide)
 have HM3:Hid (OwnR w3 m9 mv m):=oAz HM2.out fun q e=>by
  obtain ⟨c,hc⟩:=row_blk HM2.out e;exact HE3.out q hc.lt fun cs hc'=>bk_apart hc hc' (by decide)
 have HO3:=(show Hid (Own w3 B (.slice a2 f.length c2) (marksL A1 f.length)) from ow3);obtain ⟨A2,hA2⟩:∃ A2:Int,A1+2*(f.length:Int)=A2:=⟨_,rfl⟩;have HA2:=(show Hid (A1+2*(f.length:Int)=A2) from hA2);have hA2b:0<=A2/\A2<=20000:=by omega
 rw [hA2];have H4:=(show Hid _ from markRO_x HR3.out (by omega) A2 (by omega) (by omega));clear x0 x1 x2 x3 x4 x5 H3 hor ow3 HBX2 HK2 HO2 HR2 HM2 HB2 HE3 hA2;obtain ⟨x0,x1,x2,x3,x4,x5⟩:=HBX3.out.six;go_wp2_with fail;refine Calls.mono H4.out ?_;rintro e w4 ⟨rfl,or4,hk4⟩
 -- the rows' block lies apart from all others'
 have HE4:Hid (∀ q,q<w3.heap.size->(Value.slice a3 d.length c3).ownBlock≠some q->w4.heap[q]?=w3.heap[q]?):=fun q hl hn=>hk4.block q hl fun hq=>hn (by simpa using hq);have HB4:Hid (Below B w w4):=hk4.below HB3.out (by have:=HB3.out.size;omega) (fun q e=>by have:=oB HR3.out q e;omega);have HSD:Hid (∀ q,(Value.slice a3 d.length c3).ownBlock=some q->(∃ c:Array Value,Bk w3 q c 55)/\m7<=q):=fun q e=>⟨row_blk HR3.out e,oB HR3.out q e⟩;have HBT4:Hid (∀ (b:Nat) (c:Array Value) (ty:TypeId),Bk w b c ty->ty≠25->ty≠32->ty≠55->Bk w4 b c ty):=fun b c ty hb h1 h2 h3=>by
  have h:=HBT3.out b c ty (HBT2.out b c ty (HBT.out b c ty hb h1) h3) h2;refine bk_move h (HE4.out b h.lt fun e=>?_);obtain ⟨⟨c',hc'⟩,_⟩:=HSD.out b e;exact bk_apart h hc' h3
 have HNK:Hid (NextK w4 B m4 m7 m9 (.slice a0 t.len c0) (.slice a1 K.length c1) (.slice a2 f.length c2) (.slice a3 d.length c3) mv t K f.length d.length (A2+5*(d.length:Int)) m):=by
  have e1:=HA1.out;have e2:=HA2.out;subst e2;subst e1;refine ⟨n1,n2,n3,?_,⟨vs,K',?_,?_,HEA.out.1,HV3.out⟩,?_,or4,?_,HG.out.rl,rfl⟩
  ·exact (KdQ.typ HK3.out).move fun g hg hl=>⟨hg.1.1,by
    obtain ⟨_,cs,hc⟩:=hg;exact HE4.out g hl fun e=>by
     obtain ⟨⟨c',hc'⟩,_⟩:=HSD.out g e;exact bk_apart hc hc' (by decide)⟩
  ·exact oAz HEA3.out.2 fun q e=>HE4.out q (oT HEA3.out.2 q e) fun e'=>by
    obtain ⟨c,hc⟩:=ownVR_blk HEA3.out.2 e;obtain ⟨⟨c',hc'⟩,_⟩:=HSD.out q e';exact bk_apart hc hc' (by decide)
  ·exact HEA3.out.1.moved fun q hq=>by
    obtain ⟨c,hc,_⟩:=HEA3.out.1.blk hq;refine HE4.out q hc.lt fun e'=>?_;have h1:=HV3.out q hq;have h2:=(HSD.out q e').2;omega
  ·exact oAz HO3.out fun q e=>by
    obtain ⟨c,hc⟩:=time_blkQ HO3.out e;refine HE4.out q hc.lt fun e'=>?_;obtain ⟨⟨c',hc'⟩,_⟩:=HSD.out q e';exact bk_apart hc hc' (by decide)
  ·exact oAz HM3.out fun q e=>HE4.out q (oT HM3.out q e) fun e'=>by
    have h1:=HG.out.rl q e';have h2:=oB HM3.out q e;omega
 have hfin:0<=A2+5*(d.length:Int)/\A2+5*(d.length:Int)<=100000:=by omega
 clear x0 x1 x2 x3 x4 x5 H4 or4 hk4 HBX3 HK3 HEA3 HR3 HM3 HO3 HB3 HE4 HSD HEA HA1 HA2;go_wp2_with fail;go_ret;exact ⟨_,rfl,hfin.1,hfin.2,HNK.out,HB4.out,HBT4.out⟩
theorem heldSess_nk {w:World} {B m4 m7 m9:Nat} {t:PT} {a0 a1 a2 a3:Option Addr} {c0 c1 c2 c3:Nat} {mv:Value} {K:List (List Rw)} {f:LI} {d m:List Rw} {A k' n':Int} (h:NextK w B m4 m7 m9 (.slice a0 t.len c0) (.slice a1 K.length c1) (.slice a2 f.length c2) (.slice a3 d.length c3) mv t K f.length d.length A m) (hw:FewN t K f d m) :
  Calls Tryz.prog 52 #[sv k' n' (.slice a0 t.len c0) (.slice a1 K.length c1) (.slice a2 f.length c2) (.slice a3 d.length c3), .int .i64 1] w fun e w'=>e= .returned (.int .i64 A)/\Below w.heap.size w w':=by
 have HG:=(show Hid _ from h);have hcn:=hw.t;have hfl:=hw.flat;have hfn:=hw.f;have hdn:=hw.d;have hkn:=hw.k;have bS:Bk (w.alloc (.cells (sc k' n' (.slice a0 t.len c0) (.slice a1 K.length c1) (.slice a2 f.length c2) (.slice a3 d.length c3)) 30)) w.heap.size (sc k' n' (.slice a0 t.len c0) (.slice a1 K.length c1) (.slice a2 f.length c2) (.slice a3 d.length c3)) 30:=Bk.new _ _ rfl;have hb0:Below w.heap.size w (w.alloc (.cells (sc k' n' (.slice a0 t.len c0) (.slice a1 K.length c1) (.slice a2 f.length c2) (.slice a3 d.length c3)) 30)):=bAz (Below.refl _ _) _;have H1:=(show Hid _ from heldPlan_any (K:=k') (N:=n') ((h.kd.keep hb0).kd (B:=B) fun g hg=>hg.1) (by omega));obtain ⟨vs,K',hv1,hv2,hv3,_⟩:=h.ly;have HL:Hid (Ly w (.slice a1 K.length c1) K'):=OwnV.ly hv1 (by rw [hv2.len,hv3.len];omega) hv2.each;have HMK:=(show Hid (Mkd ((1+2*cntT t:Nat):Int) K K' K.length) from hv3);obtain ⟨x0,x1,x2,x3,x4,x5⟩:=bS.six;have HBS:=(show Hid (Bk _ _ _ _) from bS);have hnn:¬ (((1+2*cntT t:Nat):Int)<0):=by omega
 clear h hw bS hv1 hv2 hv3;go_enter Tryz.func52,Tryz.ntmps52;go_wp2_with fail;generalize (w.alloc (.cells (sc k' n' (.slice a0 t.len c0) (.slice a1 K.length c1) (.slice a2 f.length c2) (.slice a3 d.length c3)) 30))=W0 at *;refine Calls.mono H1.out ?_;rintro e w1 ⟨rfl,hb1⟩;have hbw1:=bSz hb0 hb1;have HB1:=(show Hid (Bk _ _ _ _) from HBS.out.keep hb1);have H2:=(show Hid _ from heldSS_any (.slice a1 K.length c1) K K' ((1+2*cntT t:Nat):Int) w1 (HL.out.keep hbw1) HMK.out (by omega) (by omega) (by omega) (by omega));clear x0 x1 x2 x3 x4 x5 hb0 hb1 H1 HBS;obtain ⟨x0,x1,x2,x3,x4,x5⟩:=HB1.out.six;go_wp2_with fail;refine Calls.mono H2.out ?_;rintro e w2 ⟨rfl,hb2⟩;have hbw2:=bSz hbw1 hb2;have HB2:=(show Hid (Bk _ _ _ _) from HB1.out.keep hb2);obtain ⟨A1,hA1⟩:∃ A1:Int,((1+2*cntT t:Nat):Int)+5*(K.flatten.length:Int)=A1:=⟨_,rfl⟩;have HA1:=(show Hid (((1+2*cntT t:Nat):Int)+5*(K.flatten.length:Int)=A1) from hA1);have hA1b:¬ (A1<0)/\0<=A1/\A1<=10000:=by omega
 obtain ⟨hA1n,hA10,hA11⟩:=hA1b;rw [hA1];have HT2:Hid (Ts w2 (.slice a2 f.length c2) (marksL A1 f.length)):=by
  have e:=HG.out.ts;rw [hA1] at e;exact Own.ts (oK e hbw2) (by rw [marksL_len];omega)
 have H3:=(show Hid _ from held_any (.slice a2 f.length c2) f.length A1 w2 HT2.out (by omega) (by omega));clear x0 x1 x2 x3 x4 x5 H2 hb2 HB1 hbw1 hA1;obtain ⟨x0,x1,x2,x3,x4,x5⟩:=HB2.out.six;go_wp2_with fail;refine Calls.mono H3.out ?_;rintro e w3 ⟨rfl,hb3⟩;have hbw3:=bSz hbw2 hb3;have HB3:=(show Hid (Bk _ _ _ _) from HB2.out.keep hb3);obtain ⟨A2,hA2⟩:∃ A2:Int,A1+2*(f.length:Int)=A2:=⟨_,rfl⟩;have HA2:=(show Hid (A1+2*(f.length:Int)=A2) from hA2);have hA2b:¬ (A2<0)/\0<=A2/\A2<=20000:=by omega
 obtain ⟨hA2n,hA20,hA21⟩:=hA2b;rw [hA2];have HR3:Hid (Rs w3 (.slice a3 d.length c3) (marksR A2 d.length)):=by
  have e:=HG.out.rs;rw [HA1.out,hA2] at e;exact OwnR.rs (oK e hbw3) (by rw [marksR_len];omega)
 have H4:=(show Hid _ from heldR_any (.slice a3 d.length c3) d.length A2 w3 HR3.out (by omega) (by omega));clear x0 x1 x2 x3 x4 x5 H3 hb3 HB2 hbw2 hA2;obtain ⟨x0,x1,x2,x3,x4,x5⟩:=HB3.out.six;have hA3n:¬ (A2+5*(d.length:Int)<0):=by omega
 go_wp2_with fail;refine Calls.mono H4.out ?_;rintro e w4 ⟨rfl,hb4⟩;have hbw4:=bSz hbw3 hb4;have HF:Hid (A2+5*(d.length:Int)=A):=by
  show _=_
  rw [<- HA2.out,<-HA1.out];exact HG.out.eA.symm
 clear x0 x1 x2 x3 x4 x5 H4 HB3;go_wp2_with fail;go_ret;exact ⟨by rw [<- HF.out];rfl,hbw4⟩
end Go.Proofs.YtbdpcngcbnoioaaGreatDoor
