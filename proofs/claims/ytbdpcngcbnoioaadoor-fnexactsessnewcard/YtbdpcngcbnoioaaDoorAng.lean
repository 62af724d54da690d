import Derived.Test.YtbdpcngcbnoioaaDoorAnc
set_option maxRecDepth 100000
set_option maxHeartbeats 4000000
namespace Go.Proofs.YtbdpcngcbnoioaaDoor
open Go.RowKit Go.Shelf
structure Nx (lo hi:Nat) (w w':World):Prop where
 os:w'.os=w.os
 tape:w'.tape=w.tape
 output:w'.output=w.output
 size:w.heap.size<=w'.heap.size
 block:∀ b,b<w.heap.size->(b<lo\/hi<=b)->w'.heap[b]?=w.heap[b]?
 plan:∀ (g:Nat) (cs:Array Value),Bk w g cs 28->∃ cs':Array Value,Bk w' g cs' 28/\∀ j:Nat,cs'[j]?=cs[j]?\/((∃ x,cs[j]?=some (.int .i64 x))/\∃ y,cs'[j]?=some (.int .i64 y))
theorem Nx.refl (lo hi:Nat) (w:World):Nx lo hi w w:=⟨rfl,rfl,rfl,Nat.le_refl _,fun _ _ _=>rfl,fun _ cs h=>⟨cs,h,fun _=> .inl rfl⟩⟩
theorem Nx.trans {lo hi:Nat} {a b c:World} (h:Nx lo hi a b) (k:Nx lo hi b c):Nx lo hi a c :=
 ⟨k.os.trans h.os,k.tape.trans h.tape,k.output.trans h.output,Nat.le_trans h.size k.size,fun i hi' hg=>(k.block i (Nat.lt_of_lt_of_le hi' h.size) hg).trans (h.block i hi' hg),fun g cs hb=>by
  obtain ⟨cs1,hb1,e1⟩:=h.plan g cs hb;obtain ⟨cs2,hb2,e2⟩:=k.plan g cs1 hb1;refine ⟨cs2,hb2,fun j=>?_⟩
  rcases e1 j with q1|⟨⟨x,q1⟩,y,q2⟩
  ·rcases e2 j with q3|⟨q3,q4⟩
   ·exact .inl (q3.trans q1)
   ·exact .inr ⟨by rw [<- q1];exact q3,q4⟩
  ·rcases e2 j with q3|⟨q3,q4⟩
   ·exact .inr ⟨⟨x,q1⟩,y,q3.trans q2⟩
   ·exact .inr ⟨⟨x,q1⟩,q4⟩⟩
theorem Nx.of_below {lo hi:Nat} {w w':World} (h:Below w.heap.size w w'):Nx lo hi w w' :=
 ⟨h.os,h.tape,h.output,h.size,fun b hb _=>h.block b hb,fun _ cs hb=>⟨cs,hb.keep h,fun _=> .inl rfl⟩⟩
theorem Nx.set {lo hi:Nat} {w:World} {g j:Nat} {cs:Array Value} {x:Int} (hb:Bk w g cs 28) (h1:lo<=g) (h2:g<hi) (hc:cs[j]?=some (.int .i64 x)) (y:Int):Nx lo hi w (w.setCell ⟨g,j,none⟩ (.int .i64 y)):=by
 refine ⟨rfl,rfl,rfl,by simp,fun b _ hn=>Below.heap_setCell _ _ _ _ (fun e=>by have e2:b=g:=e;omega),fun q cq hq=>?_⟩
 by_cases e:q=g
 ·subst e;have:cq=cs:=by unfold Bk at hb hq;rw [hb] at hq;injection hq with hq;injection hq with h;exact h.symm
  subst this;refine ⟨_,hb.set j (.int .i64 y),fun l=>?_⟩
  by_cases e2:l=j
  ·subst e2;exact .inr ⟨⟨x,hc⟩,y,Array.getElem?_setIfInBounds_self_of_lt (Array.getElem?_eq_some_iff.1 hc).1⟩
  ·exact .inl (Array.getElem?_setIfInBounds_ne (fun e3=>e2 e3.symm))
 ·exact ⟨cq,hq.apart (p:=⟨g,j,none⟩) e _,fun _=> .inl rfl⟩
def ShF (lo hi:Nat) (w:World):RT->Value->Prop
 | .nil,_=>False
 | .mk _ _ m f,s=>∃ (g c:Nat) (cs:Array Value),s= .slice (some ⟨g,0,none⟩) m c/\lo<=g/\g<hi/\Bk w g cs 28/\∀ i,i<m->(∃ x,cs[i*3]?=some (.int .i64 x))/\(∃ y,cs[i*3+1]?=some (.int .i64 y))/\∃ b d,cs[i*3+2]?=some (.slice b (f i).m d)/\ShF lo hi w (f i) (.slice b (f i).m d)
theorem RdF.sl {B:Nat} {w:World}:∀ {t:RT} {s:Value},RdF B w t s->∃ b d,s= .slice b t.m d
 | .nil,_,h=>h.elim
 | .mk _ _ _ _,_,⟨_,_,_,e,_⟩=>⟨_,_,e⟩
theorem RdF.form {B:Nat} {w:World}:∀ {t:RT} {s:Value},RdF B w t s->ShF B w.heap.size w t s
 | .nil,_,h=>h.elim
 | .mk _ _ _ f,_,⟨g,c,cs,e,_,_,hg,hb,h⟩=>⟨g,c,cs,e,hg,hb.lt,hb,fun i hi=>by
  obtain ⟨q0,q1,sx,q2,hx⟩:=h i hi;obtain ⟨b,d,e2⟩:=hx.sl;subst e2;exact ⟨⟨_,q0⟩,⟨_,q1⟩,b,d,q2,RdF.form hx⟩⟩
theorem ShF.num {lo hi lo' hi':Nat} {w w':World} (H:Nx lo' hi' w w'):∀ {t:RT} {s:Value},ShF lo hi w t s->ShF lo hi w' t s
 | .nil,_,h=>h.elim
 | .mk _ _ _ f,_,⟨g,c,cs,e,h1,h2,hb,h⟩=>by
  obtain ⟨cs',hb',hj⟩:=H.plan g cs hb;refine ⟨g,c,cs',e,h1,h2,hb',fun i hi=>?_⟩;obtain ⟨⟨x,q0⟩,⟨y,q1⟩,b,d,q2,hx⟩:=h i hi;refine ⟨?_,?_,b,d,?_,ShF.num H hx⟩
  ·rcases hj (i*3) with e1|⟨_,e1⟩
   ·exact ⟨x,e1.trans q0⟩
   ·exact e1
  ·rcases hj (i*3+1) with e1|⟨_,e1⟩
   ·exact ⟨y,e1.trans q1⟩
   ·exact e1
  ·rcases hj (i*3+2) with e1|⟨⟨x',e1⟩,_⟩
   ·exact e1.trans q2
   ·rw [q2] at e1;cases e1
theorem ShF.sl {lo hi:Nat} {w:World}:∀ {t:RT} {s:Value},ShF lo hi w t s->∃ g c,s= .slice (some ⟨g,0,none⟩) t.m c
 | .nil,_,h=>h.elim
 | .mk _ _ _ _,_,⟨_,_,_,e,_⟩=>⟨_,_,e⟩
theorem ShF.at {lo hi:Nat} {w:World} {t:RT} {g n c:Nat} (h:ShF lo hi w t (.slice (some ⟨g,0,none⟩) n c)) {i:Nat} (hi':i<t.m) :
  ∃ (cs:Array Value) (x y:Int) (b:Option Addr) (d:Nat),lo<=g/\g<hi/\Bk w g cs 28/\cs[i*3]?=some (.int .i64 x)/\cs[i*3+1]?=some (.int .i64 y)/\cs[i*3+2]?=some (.slice b (t.f i).m d)/\ShF lo hi w (t.f i) (.slice b (t.f i).m d):=by
 rcases t with _|⟨k,n',m,f⟩
 ·exact h.elim
 obtain ⟨g',c',cs,e,h1,h2,hb,hx⟩:=h;cases e;obtain ⟨⟨x,q0⟩,⟨y,q1⟩,b,d,q2,hk⟩:=hx i hi';exact ⟨cs,x,y,b,d,h1,h2,hb,q0,q1,q2,hk⟩
theorem set2_at {cs:Array Value} {j:Nat} {v1:Value} (a b:Value) (h1:cs[j+1]?=some v1) :
  (cs.setIfInBounds j a)[j+1]?=some v1/\((cs.setIfInBounds j a).setIfInBounds (j+1) b)[j+2]?=cs[j+2]?:=by
 refine ⟨?_,?_⟩
 ·rw [Array.getElem?_setIfInBounds_ne (by omega)];exact h1
 ·rw [Array.getElem?_setIfInBounds_ne (by omega),Array.getElem?_setIfInBounds_ne (by omega)]
abbrev NumPost (lo hi k n:Nat) (w:World) (e:Ending) (w':World):Prop:=e= .returned (.int .i64 ((k+2*n:Nat):Int))/\Nx lo hi w w'
theorem markS_rstep {t:RT} {lo hi:Nat} {s:Value} {w:World} {k:Nat} (hs:ShF lo hi w t s) (hk:k+2*t.nds<=4000000)
  (hrec:∀ i,i<t.m->∀ (W:World) (u:Value) (q:Nat),ShF lo hi W (t.f i) u->q+2*(t.f i).nds<=4000000->Calls Tryd.prog 23 #[u, .int .i64 (q:Int)] W (NumPost lo hi q (t.f i).nds W)) :
  Calls Tryd.prog 23 #[s, .int .i64 (k:Int)] w (NumPost lo hi k t.nds w):=by
 have HR:=(show Hid _ from hrec);have HS:=(show Hid (ShF lo hi w t s) from hs);obtain ⟨g,c,rfl⟩:=hs.sl;have HND:=(show Hid (t.nds=t.m+t.upto t.m) from t.nds_eq);have HUP:=(show Hid _ from fun (i:Nat) (h:i<t.m)=>t.upto_le (show i+1<=t.m from h));have htl:t.m<=4000000:=by have:=HND.out;omega
 have HK:=(show Hid (k+2*t.nds<=4000000) from hk);clear hs hrec hk;go_enter Tryd.func23,Tryd.ntmps23;go_wp2_with fail
 go_loopw [1,5] (fun kv iv wr=>∃ i:Nat,kv= .int .i64 ((k+2*i+2*t.upto i:Nat):Int)/\iv= .int .i64 i/\i<=t.m/\Nx lo hi w wr) (fun _ iv _=>t.m-(intOf iv).toNat)
 case atStart=>exact ⟨0,rfl,rfl,Nat.zero_le _,Nx.refl _ _ _⟩
 case round =>
  obtain ⟨i,rfl,rfl,hil,hnx⟩:=hrel
  by_cases hlt:i<t.m
  ·have ik:((i:Int)<(t.m:Int)):=by omega
   obtain ⟨cs,x,y,b,d,hl1,hl2,hb,h0,h1,h2,hkid⟩:=ShF.at (HS.out.num hnx) hlt;have hup:=HUP.out i hlt;have hu:t.upto (i+1)=t.upto i+(t.f i).nds:=rfl;have hnd:=HND.out;have hk:=HK.out;obtain ⟨q,hq⟩:∃ q,k+2*i+2*t.upto i=q:=⟨_,rfl⟩;have hq2:q+2+2*(t.f i).nds<=4000000:=by omega
   have HKN:Hid (k+2*(i+1)+2*t.upto (i+1)=q+2+2*(t.f i).nds):=by show _=_;omega
   rw [hq];have a0:=hb.cell h0;have f0:=hb.free (i*3);have b1:=hb.set (i*3) (.int .i64 q);obtain ⟨h1',h2'⟩:=set2_at (.int .i64 (q:Int)) (.int .i64 ((q:Int)+1)) h1;have a1:=b1.cell h1';have f1:=b1.free (i*3+1);have b2:=b1.set (i*3+1) (.int .i64 ((q:Int)+1));have a2:=b2.cell (h2'.trans h2);have hw1:IntKind.i64.wrap ((q:Int)+1)=(q:Int)+1:=by rw [IntKind.wrap_i64];omega
   have hw2:IntKind.i64.wrap ((q:Int)+1+1)=(q:Int)+2:=by rw [IntKind.wrap_i64];omega
   have HN2:Hid (Nx lo hi wr ((wr.setCell ⟨g,i*3,none⟩ (.int .i64 q)).setCell ⟨g,i*3+1,none⟩ (.int .i64 ((q:Int)+1)))):=(Nx.set hb hl1 hl2 h0 _).trans (Nx.set b1 hl1 hl2 h1' _);have HC:=(show Hid _ from HR.out i hlt _ _ (q+2) (hkid.num HN2.out) hq2);have HW:=(show Hid (Nx lo hi w wr) from hnx);clear hkid b1 b2 hb hq h0 h1 h2 h1' h2' hnx hup hu hnd hk hl1 hl2;go_wp2_with fail;refine Calls.mono HC.out ?_;rintro e w7 ⟨rfl,hx7⟩;have HX:Hid (Nx lo hi w w7):=(HW.out.trans HN2.out).trans hx7;clear hx7;go_wp2_with fail;go_roundw
   case rel=>exact ⟨i+1,by rw [HKN.out];congr 1,by go_num,by omega,HX.out⟩
   case measure=>simp [intOf];omega
  ·have hie:i=t.m:=by omega
   have HIE:=(show Hid (i=t.m) from hie);have ik:¬ ((i:Int)<(t.m:Int)):=by omega
   clear hie;go_wp2_with fail;go_ret;refine ⟨?_,hnx⟩;have h1:=HIE.out;have h2:=HND.out;subst h1;have e1:(k:Int)+2*(t.m:Int)+2*(t.upto t.m:Int)=((k+2*t.nds:Nat):Int):=by omega
   exact congrArg (fun x=>Ending.returned (.int .i64 x)) e1
theorem markS_rt:∀ (t:RT) {lo hi:Nat} {s:Value} {w:World} {k:Nat},ShF lo hi w t s->k+2*t.nds<=4000000->Calls Tryd.prog 23 #[s, .int .i64 (k:Int)] w (NumPost lo hi k t.nds w)
 | .nil,_,_,_,_,_,hs,_=>hs.elim
 | .mk _ _ _ f,_,_,_,_,_,hs,hk=>markS_rstep hs hk fun i _ _ _ _ h hq=>markS_rt (f i) h hq
theorem markPlan_rt {t:RT} {lo hi:Nat} {s k' n':Value} {w:World} {k:Nat} (hs:ShF lo hi w t s) (hk:k+2*t.nds<=4000000) :
  Calls Tryd.prog 10 #[.agg #[k',n',s], .int .i64 (k:Int)] w (NumPost lo hi k t.nds w):=by
 have bA:Bk (w.alloc (.cells #[k',n',s] 28)) w.heap.size #[k',n',s] 28:=Bk.new _ _ rfl;have hb0:Below w.heap.size w (w.alloc (.cells #[k',n',s] 28)):=bAz (Below.refl _ _) _;have HC:=(show Hid _ from markS_rt t (hs.num (Nx.of_below (lo:=lo) (hi:=hi) hb0)) hk);obtain ⟨g,c,rfl⟩:=hs.sl;obtain ⟨x0,x1,x2⟩:=bA.three';clear hs bA;go_enter Tryd.func10,Tryd.ntmps10;go_wp2_with fail;refine Calls.mono HC.out ?_;rintro e w1 ⟨rfl,hx1⟩;have HX:Hid (Nx lo hi w w1):=(Nx.of_below hb0).trans hx1;clear hx1 hb0;go_wp2_with fail;go_ret;exact ⟨rfl,HX.out⟩
end Go.Proofs.YtbdpcngcbnoioaaDoor
