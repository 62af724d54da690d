import Derived.Test.YtbdpcngcbnoioaaGreatDoorGj5
import Derived.Deep.RegionLaw
set_option maxRecDepth 100000
set_option maxHeartbeats 8000000
namespace Go.Proofs.YtbdpcngcbnoioaaGreatDoor
def gt (l:LI) (i:Nat):Int×Int:=l.getD i (0,0)
def swapT (l:LI) (i j:Nat):LI:=(l.set i (gt l j)).set j (gt l i)
def leT (a b:Int×Int):Prop:=ltT b a=false
theorem leT_iff {a b:Int×Int}:leT a b↔a.1<b.1\/(a.1=b.1/\a.2<=b.2):=by
 unfold leT ltT;simp only [decide_eq_false_iff_not];omega
theorem ltT_iffP {a b:Int×Int}:ltT a b=true↔a.1<b.1\/(a.1=b.1/\a.2<b.2):=by
 unfold ltT;simp only [decide_eq_true_eq]
theorem leT_refl (a:Int×Int):leT a a:=by rw [leT_iff];omega
theorem leT_trans {a b c:Int×Int} (h:leT a b) (k:leT b c):leT a c:=by rw [leT_iff] at *;omega
theorem leT_of_lt {a b:Int×Int} (h:ltT a b=true):leT a b:=by rw [leT_iff];rw [ltT_iffP] at h;omega
theorem gt_mem {l:LI} {k:Nat} (h:k<l.length):gt l k∈l:=by
 unfold gt;rw [List.getD_eq_getElem?_getD,List.getElem?_eq_getElem h];exact List.getElem_mem h
theorem mem_gt {l:LI} {x:Int×Int} (h:x∈l):∃ k,k<l.length/\gt l k=x:=by
 obtain ⟨k,hk,e⟩:=List.getElem_of_mem h;exact ⟨k,hk,by unfold gt;rw [List.getD_eq_getElem?_getD,List.getElem?_eq_getElem hk,e];rfl⟩
theorem gt_take {l:LI} {n k:Nat} (h:k<n):gt (l.take n) k=gt l k:=by
 unfold gt;rw [List.getD_eq_getElem?_getD,List.getD_eq_getElem?_getD,List.getElem?_take,if_pos h]
theorem gt_app1 {l:LI} {x:Int×Int} {k:Nat} (h:k<l.length):gt (l++[x]) k=gt l k:=by
 unfold gt;rw [List.getD_eq_getElem?_getD,List.getD_eq_getElem?_getD,List.getElem?_append_left h]
theorem swap_len (l:LI) (i j:Nat):(swapT l i j).length=l.length:=by simp [swapT]
theorem swap_gt {l:LI} {i j:Nat} (hi:i<l.length) (hj:j<l.length) (k:Nat):gt (swapT l i j) k=if k=j then gt l i else if k=i then gt l j else gt l k:=by
 unfold swapT;generalize hx:gt l i=x;generalize hy:gt l j=y;unfold gt;simp only [List.getD_eq_getElem?_getD,List.getElem?_set,List.length_set]
 by_cases h1:k=j
 ·subst h1;simp [hj]
 ·simp only [if_neg h1,if_neg (Ne.symm h1)]
  by_cases h2:k=i
  ·subst h2;simp [hi]
  ·simp only [if_neg h2,if_neg (Ne.symm h2)]
theorem swap_mem {l:LI} {i j:Nat} (hi:i<l.length) (hj:j<l.length) (x:Int×Int):x∈swapT l i j↔x∈l:=by
 constructor
 ·intro h;obtain ⟨k,hk,e⟩:=mem_gt h;rw [swap_len] at hk;rw [swap_gt hi hj] at e
  split at e
  ·rw [<- e];exact gt_mem hi
  ·split at e
   ·rw [<- e];exact gt_mem hj
   ·rw [<- e];exact gt_mem hk
 ·intro h;obtain ⟨k,hk,e⟩:=mem_gt h;have hl:=swap_len l i j;have g:∀ q,q<l.length->gt (swapT l i j) q∈swapT l i j:=fun q hq=>gt_mem (by omega)
  by_cases h1:k=i
  ·have h:=g j hj;have q:gt (swapT l i j) j=x:=by rw [swap_gt hi hj,if_pos rfl,<-h1,e]
   rw [q] at h;exact h
  ·by_cases h2:k=j
   ·have h:=g i hi;have q:gt (swapT l i j) i=x:=by
     rw [swap_gt hi hj]
     by_cases h3:i=j
     ·rw [if_pos h3,h3,<-h2,e]
     ·rw [if_neg h3,if_pos rfl,<-h2,e]
    rw [q] at h;exact h
   ·have h:=g k hk;have q:gt (swapT l i j) k=x:=by rw [swap_gt hi hj,if_neg h2,if_neg h1,e]
    rw [q] at h;exact h
def HeapLow (l:LI) (n i0:Nat):Prop:=∀ m,0<m->m<n->i0<=(m-1) / 2->leT (gt l ((m-1) / 2)) (gt l m)
structure DnI (l c:LI) (i0 n i:Nat):Prop where
 len:c.length=l.length
 mem:∀ x,x∈c↔x∈l
 far:∀ k,n<=k->gt c k=gt l k
 d1:∀ m,0<m->m<n->i0<=(m-1) / 2->(m-1) / 2≠i->leT (gt c ((m-1) / 2)) (gt c m)
 d2:i0<i->∀ m,0<m->m<n->(m-1) / 2=i->leT (gt c ((i-1) / 2)) (gt c m)
 ge:i0<=i
 pge:i0<i->i0<=(i-1) / 2
theorem DnI.start {l:LI} {i0 n:Nat} (h:HeapLow l n (i0+1)):DnI l l i0 n i0 where
 len:=rfl
 mem _:=Iff.rfl
 far _ _:=rfl
 d1 m h0 hm hi hne:=h m h0 hm (by omega)
 d2 h:=by omega
 ge:=Nat.le_refl _
 pge h:=by omega
theorem DnI.stop1 {l c:LI} {i0 n i:Nat} (h:DnI l c i0 n i) (hn:n<=2*i+1):HeapLow c n i0:=fun m h0 hm hi=>h.d1 m h0 hm hi (by omega)
def Least2 (c:LI) (n i j:Nat):Prop:=2*i+1<n/\j<n/\(j=2*i+1\/j=2*i+2)/\∀ m,0<m->m<n->(m-1) / 2=i->leT (gt c j) (gt c m)
theorem least_1 {c:LI} {n i:Nat} (h1:2*i+1<n) (h:2*i+2<n->leT (gt c (2*i+1)) (gt c (2*i+2))):Least2 c n i (2*i+1) :=
 ⟨h1,h1, .inl rfl,fun m h0 hm e=>by
  obtain rfl|rfl:m=2*i+1\/m=2*i+2:=by omega
  ·exact leT_refl _
  ·exact h hm⟩
theorem least_2 {c:LI} {n i:Nat} (h2:2*i+2<n) (h:ltT (gt c (2*i+2)) (gt c (2*i+1))=true):Least2 c n i (2*i+2) :=
 ⟨by omega,h2, .inr rfl,fun m h0 hm e=>by
  obtain rfl|rfl:m=2*i+1\/m=2*i+2:=by omega
  ·exact leT_of_lt h
  ·exact leT_refl _⟩
theorem DnI.stop2 {l c:LI} {i0 n i j:Nat} (h:DnI l c i0 n i) (hj:Least2 c n i j) (hl:ltT (gt c j) (gt c i)=false):HeapLow c n i0:=fun m h0 hm hi=>by
 by_cases e:(m-1) / 2=i
 ·rw [e];exact leT_trans hl (hj.2.2.2 m h0 hm e)
 ·exact h.d1 m h0 hm hi e
theorem DnI.step {l c:LI} {i0 n i j:Nat} (h:DnI l c i0 n i) (hn:n<=l.length) (hj:Least2 c n i j) (hl:ltT (gt c j) (gt c i)=true):DnI l (swapT c i j) i0 n j:=by
 obtain ⟨h1,h2,h3,h4⟩:=hj;have hlen:=h.len;have hi':i<c.length:=by omega
 have hj':j<c.length:=by omega
 have hge:=h.ge;have e:=swap_gt hi' hj';have hij:i≠j:=by omega
 refine ⟨by rw [swap_len];exact hlen,fun x=>by rw [swap_mem hi' hj'];exact h.mem x,fun k hk=>by rw [e,if_neg (by omega),if_neg (by omega)];exact h.far k hk,fun m h0 hm hi hne=>?_,fun hlt m h0 hm hp=>?_,by omega,fun _=>by omega⟩
 ·rw [e,e]
  by_cases c1:(m-1) / 2=i
  ·rw [if_neg (by omega),if_pos c1]
   by_cases c2:m=j
   ·rw [if_pos c2];exact leT_of_lt hl
   ·rw [if_neg c2,if_neg (by omega)];exact h4 m h0 hm c1
  ·rw [if_neg (by omega),if_neg (by omega)]
   by_cases c2:m=j
   ·omega
   ·rw [if_neg c2]
    by_cases c3:m=i
    ·rw [if_pos c3];have:=h.d2 (by omega) j (by omega) h2 (by omega);rw [c3];exact this
    ·rw [if_neg c3];exact h.d1 m h0 hm hi c1
 ·rw [e,e];have c1:(j-1) / 2=i:=by omega
  rw [c1,if_neg hij,if_pos rfl,if_neg (by omega),if_neg (by omega)];have:=h.d1 m h0 hm (by omega) (by omega);rw [hp] at this;exact this
structure UpI (l c:LI) (j:Nat):Prop where
 len:c.length=l.length
 mem:∀ x,x∈c↔x∈l
 lt:j<l.length
 u1:∀ m,0<m->m<l.length->m≠j->leT (gt c ((m-1) / 2)) (gt c m)
 u2:0<j->∀ m,0<m->m<l.length->(m-1) / 2=j->leT (gt c ((j-1) / 2)) (gt c m)
theorem UpI.start {l:LI} {x:Int×Int} (h:HeapLow l l.length 0):UpI (l++[x]) (l++[x]) l.length where
 len:=rfl
 mem _:=Iff.rfl
 lt:=by simp
 u1 m h0 hm hne:=by
  have hm':m<l.length:=by simp at hm;omega
  rw [gt_app1 (by omega),gt_app1 hm'];exact h m h0 hm' (by omega)
 u2 h0 m h1 hm hp:=by simp at hm;omega
theorem UpI.stop0 {l c:LI} (h:UpI l c 0):HeapLow c l.length 0:=fun m h0 hm _=>h.u1 m h0 hm (by omega)
theorem UpI.stop1 {l c:LI} {j:Nat} (h:UpI l c j) (hl:ltT (gt c j) (gt c ((j-1) / 2))=false):HeapLow c l.length 0:=fun m h0 hm _=>by
 by_cases e:m=j
 ·rw [e];exact hl
 ·exact h.u1 m h0 hm e
theorem UpI.step {l c:LI} {j:Nat} (h:UpI l c j) (hj0:0<j) (hl:ltT (gt c j) (gt c ((j-1) / 2))=true):UpI l (swapT c ((j-1) / 2) j) ((j-1) / 2):=by
 have hlen:=h.len;have hlt:=h.lt;have hi':(j-1) / 2<c.length:=by omega
 have hj':j<c.length:=by omega
 have e:=swap_gt hi' hj';have hc:=leT_of_lt hl;refine ⟨by rw [swap_len];exact hlen,fun x=>by rw [swap_mem hi' hj'];exact h.mem x,by omega,fun m h0 hm hne=>?_,fun h0 m h1 hm hp=>?_⟩
 ·rw [e,e]
  by_cases c1:m=j
  ·rw [c1,if_neg (by omega),if_pos rfl,if_pos rfl];exact hc
  ·rw [if_neg c1,if_neg hne]
   by_cases c2:(m-1) / 2=j
   ·rw [if_pos c2];exact h.u2 hj0 m h0 hm c2
   ·rw [if_neg c2]
    by_cases c3:(m-1) / 2=(j-1) / 2
    ·rw [if_pos c3];have:=h.u1 m h0 hm c1;rw [c3] at this;exact leT_trans hc this
    ·rw [if_neg c3];exact h.u1 m h0 hm c1
 ·rw [e,e];have hp0:leT (gt c (((j-1) / 2-1) / 2)) (gt c ((j-1) / 2)):=h.u1 ((j-1) / 2) h0 (by omega) (by omega);rw [if_neg (by omega),if_neg (by omega)]
  by_cases c1:m=j
  ·rw [if_pos c1];exact hp0
  ·rw [if_neg c1,if_neg (by omega)];have:=h.u1 m h1 hm c1;rw [hp] at this;exact leT_trans hp0 this
theorem heap_first {l:LI} (h:HeapLow l l.length 0) {k:Nat} (hk:k<l.length):leT (gt l 0) (gt l k):=by
 induction k using Nat.strongRecOn with
 | _ k ih =>
  by_cases h0:k=0
  ·subst h0;exact leT_refl _
  ·exact leT_trans (ih ((k-1) / 2) (by omega) (by omega)) (h k (by omega) hk (by omega))
theorem heap_min {l:LI} (h:HeapLow l l.length 0) {x:Int×Int} (hx:x∈l):leT (gt l 0) x:=by
 obtain ⟨k,hk,rfl⟩:=mem_gt hx;exact heap_first h hk
theorem pop_low {l:LI} (h:HeapLow l l.length 0) (h0:0<l.length):HeapLow (swapT l 0 (l.length-1)) (l.length-1) (0+1):=fun m hm0 hm hi=>by
 have e:=swap_gt (l:=l) (i:=0) (j:=l.length-1) h0 (by omega);rw [e,e,if_neg (by omega),if_neg (by omega),if_neg (by omega),if_neg (by omega)];exact h m hm0 (by omega) (by omega)
theorem heap_take {c:LI} {n:Nat} (h:HeapLow c n 0) (hn:n<=c.length):HeapLow (c.take n) (c.take n).length 0:=fun m h0 hm _=>by
 have hl:(c.take n).length=n:=by rw [List.length_take];omega
 rw [hl] at hm;rw [gt_take (by omega),gt_take hm];exact h m h0 hm (by omega)
theorem pop_mem {l c:LI} (h0:0<l.length) (h:DnI (swapT l 0 (l.length-1)) c 0 (l.length-1) c.length\/(c.length=l.length/\(∀ x,x∈c↔x∈swapT l 0 (l.length-1))/\∀ k,l.length-1<=k->gt c k=gt (swapT l 0 (l.length-1)) k)) (x:Int×Int):x∈l↔x=gt l 0\/x∈c.take (l.length-1):=by
 have hc:c.length=l.length/\(∀ x,x∈c↔x∈swapT l 0 (l.length-1))/\∀ k,l.length-1<=k->gt c k=gt (swapT l 0 (l.length-1)) k:=by
  rcases h with h|h
  ·exact ⟨by rw [h.len,swap_len],h.mem,h.far⟩
  ·exact h
 obtain ⟨h1,h2,h3⟩:=hc;have hm:x∈c↔x∈l:=by rw [h2,swap_mem h0 (by omega)]
 have hlast:gt c (l.length-1)=gt l 0:=by rw [h3 _ (Nat.le_refl _),swap_gt h0 (by omega),if_pos rfl]
 rw [<- hm];constructor
 ·intro hx;obtain ⟨k,hk,e⟩:=mem_gt hx
  by_cases hkn:k=l.length-1
  ·left;rw [<- e,hkn,hlast]
  ·right
   rw [<- e,<-gt_take (l:=c) (n:=l.length-1) (by omega)];exact gt_mem (by rw [List.length_take];omega)
 ·rintro (rfl|hx)
  ·rw [<- hlast];exact gt_mem (by omega)
  ·exact List.mem_of_mem_take hx
open Go.RowKit
theorem m_len0 (a:Addr) (w:World):(method 474 305 (.pointer (some a)) "Len").run Tryz.prog w=(do let v<-loadVar 303 a;pure (334,v)).run Tryz.prog w:=by kernel_rfl
theorem m_less0 (a:Addr) (w:World):(method 474 305 (.pointer (some a)) "Less").run Tryz.prog w=(do let v<-loadVar 303 a;pure (335,v)).run Tryz.prog w:=by kernel_rfl
theorem m_swap0 (a:Addr) (w:World):(method 474 305 (.pointer (some a)) "Swap").run Tryz.prog w=(do let v<-loadVar 303 a;pure (336,v)).run Tryz.prog w:=by kernel_rfl
theorem m_pop (a:Addr) (w:World):(method 474 305 (.pointer (some a)) "Pop").run Tryz.prog w= .ok (337, .pointer (some a)) w:=by kernel_rfl
theorem m_push (a:Addr) (w:World):(method 474 305 (.pointer (some a)) "Push").run Tryz.prog w= .ok (338, .pointer (some a)) w:=by kernel_rfl
theorem load_heap {w:World} {b:Nat} {v:Value} (h:Bk w b #[v] 303):(loadVar 303 ⟨b,0,none⟩).run Tryz.prog w= .ok v w:=by
 have c0:=h.cell (i:=0) (v:=v) rfl;go_simp
theorem m_len {w:World} {b:Nat} {v:Value} (h:Bk w b #[v] 303):(method 474 305 (.pointer (some ⟨b,0,none⟩)) "Len").run Tryz.prog w= .ok (334,v) w:=by
 rw [m_len0];simp [load_heap h,Result.andThen]
theorem m_less {w:World} {b:Nat} {v:Value} (h:Bk w b #[v] 303):(method 474 305 (.pointer (some ⟨b,0,none⟩)) "Less").run Tryz.prog w= .ok (335,v) w:=by
 rw [m_less0];simp [load_heap h,Result.andThen]
theorem m_swap {w:World} {b:Nat} {v:Value} (h:Bk w b #[v] 303):(method 474 305 (.pointer (some ⟨b,0,none⟩)) "Swap").run Tryz.prog w= .ok (336,v) w:=by
 rw [m_swap0];simp [load_heap h,Result.andThen]
attribute [local go_sem ↓] Go.wp_at_zero Go.wp_at_succ
theorem gt_tv (l:LI) (i:Nat):gt l i=(tA l i,tB l i):=rfl
theorem hLen_any (a:Option Addr) (n cap:Nat) (w:World):Calls Tryz.prog 334 #[.slice a n cap] w fun e w'=>e= .returned (.int .i64 n)/\w'=w:=by
 go_enter Tryz.func334,Tryz.ntmps334;go_wp2_with fail;go_ret;exact ⟨rfl,rfl⟩
theorem orZ_ltT (a b c d:Int):decide (orZ (cmpZ a c) (cmpZ b d)<0)=ltT (a,b) (c,d):=by
 unfold orZ cmpZ ltT;rw [Bool.eq_iff_iff,decide_eq_true_eq,decide_eq_true_eq];simp only;constructor
 ·intro h;revert h;split<;>(try split)<;>(try split)<;>(try split)<;>intro h<;>omega
 ·intro h;split<;>(try split)<;>(try split)<;>(try split)<;>omega
theorem hLess_any {g cap i j:Nat} {c:Array Value} {l:LI} {w:World} (hb:Bk w g c 32) (hf:Fill c l l.length) (hi:i<l.length) (hj:j<l.length) {r:Bool} (hr:ltT (gt l i) (gt l j)=r) :
  Calls Tryz.prog 335 #[.slice (some ⟨g,0,none⟩) l.length cap, .int .i64 i, .int .i64 j] w fun e w'=>e= .returned (.bool r)/\Below w.heap.size w w':=by
 have q0:=hb.cell (hf i hi).1;have q1:=hb.cell (hf i hi).2;have r0:=hb.cell (hf j hj).1;have r1:=hb.cell (hf j hj).2;have HR:Hid (decide (orZ (cmpZ (tA l i) (tA l j)) (cmpZ (tB l i) (tB l j))<0)=r):=by
  show _=_
  rw [<- hr];exact orZ_ltT _ _ _ _
 have HB:Hid (Bk w g c 32/\Fill c l l.length):=⟨hb,hf⟩;have HX:Hid (∀ W,Below w.heap.size w W->(W.cell? ⟨g,i*2,none⟩=some (.int .i64 (tA l i))/\W.cell? ⟨g,i*2+1,none⟩=some (.int .i64 (tB l i)))/\W.cell? ⟨g,j*2,none⟩=some (.int .i64 (tA l j))/\W.cell? ⟨g,j*2+1,none⟩=some (.int .i64 (tB l j))) :=
  fun W hW=>⟨⟨cB hW q0,cB hW q1⟩,cB hW r0,cB hW r1⟩
 have hbD:Below w.heap.size w w.drew:=(Below.refl _ _).drew;have HG:Hid (∀ wc,Gr w.drew wc->Below w.heap.size w wc):=fun wc h=>by obtain ⟨h1,_⟩:=h;exact bSz hbD h1
 have ii:(i:Int)<(l.length:Int):=by omega
 have ij:(j:Int)<(l.length:Int):=by omega
 clear hb hf hr;generalize tA l i=a1 at *;generalize tB l i=a2 at *;generalize tA l j=b1 at *;generalize tB l j=b2 at *;generalize l.length=n at *;go_enter Tryz.func335,Tryz.ntmps335;go_wp2_with fail
 go_region_held3 (fun W=>(W.cell? ⟨g,i*2,none⟩=some (.int .i64 a1)/\W.cell? ⟨g,i*2+1,none⟩=some (.int .i64 a2))/\W.cell? ⟨g,j*2,none⟩=some (.int .i64 b1)/\W.cell? ⟨g,j*2+1,none⟩=some (.int .i64 b2))
  (first|exact HX.out _ hbc2|exact HX.out _ hbD)
  (first|(go_at_call 160;with_reducible refine (compareT_any a1 a2 b1 b2 _).mono ?_;rintro e wc ⟨rfl,hbc⟩;have hbc2:=HG.out _ hbc))
 all_goals
  go_wp2_with fail;go_ret;exact ⟨rB HR.out,hbc2⟩
theorem Fill.swap {c:Array Value} {l:LI} {i j:Nat} (h:Fill c l l.length) (hi:i<l.length) (hj:j<l.length) (hs:l.length*2<=c.size) :
  Fill ((((c.setIfInBounds (i*2) (.int .i64 (tA l j))).setIfInBounds (i*2+1) (.int .i64 (tB l j))).setIfInBounds (j*2) (.int .i64 (tA l i))).setIfInBounds (j*2+1) (.int .i64 (tB l i))) (swapT l i j) l.length:=by
 have h1:=Fill.set h hi rfl hs (tA l j) (tB l j);exact Fill.set (n:=l.length) h1 hj (by simp) (by simpa using hs) (tA l i) (tB l i)
theorem hSwap_any {g cap i j:Nat} {c:Array Value} {l:LI} {w:World} (hb:Bk w g c 32) (hf:Fill c l l.length) (hs:l.length*2<=c.size) (hi:i<l.length) (hj:j<l.length) :
  Calls Tryz.prog 336 #[.slice (some ⟨g,0,none⟩) l.length cap, .int .i64 i, .int .i64 j] w fun e w'=>e= .returned (.tuple #[])/\∃ c':Array Value,Bk w' g c' 32/\Fill c' (swapT l i j) l.length/\c'.size=c.size/\Bx g w w':=by
 have q0:=hb.cell (hf i hi).1;have q1:=hb.cell (hf i hi).2;have r0:=hb.cell (hf j hj).1;have r1:=hb.cell (hf j hj).2;have ii:(i:Int)<(l.length:Int):=by omega
 have ij:(j:Int)<(l.length:Int):=by omega
 have HF:Hid (∃ c':Array Value,Bk ((((w.drew.setCell ⟨g,i*2,none⟩ (.int .i64 (tA l j))).setCell ⟨g,i*2+1,none⟩ (.int .i64 (tB l j))).setCell ⟨g,j*2,none⟩ (.int .i64 (tA l i))).setCell ⟨g,j*2+1,none⟩ (.int .i64 (tB l i))) g c' 32/\Fill c' (swapT l i j) l.length/\c'.size=c.size/\Bx g w ((((w.drew.setCell ⟨g,i*2,none⟩ (.int .i64 (tA l j))).setCell ⟨g,i*2+1,none⟩ (.int .i64 (tB l j))).setCell ⟨g,j*2,none⟩ (.int .i64 (tA l i))).setCell ⟨g,j*2+1,none⟩ (.int .i64 (tB l i)))) :=
  ⟨_,(((hb.drew.set (i*2) _).set (i*2+1) _).set (j*2) _).set (j*2+1) _,Fill.swap hf hi hj hs,by simp,((((Bx.refl g w).drew.setG rfl _).setG rfl _).setG rfl _).setG rfl _⟩
 have f0:=hb.free (i*2);have f1:=hb.free (i*2+1);have f2:=hb.free (j*2);have f3:=hb.free (j*2+1);obtain ⟨x1,hx1⟩:∃ x,(c.setIfInBounds (i*2) (.int .i64 (tA l j)))[j*2]?=some x:=⟨_,Array.getElem?_eq_getElem (by simp;omega)⟩;obtain ⟨x2,hx2⟩:∃ x,((c.setIfInBounds (i*2) (.int .i64 (tA l j))).setIfInBounds (i*2+1) (.int .i64 (tB l j)))[j*2+1]?=some x:=⟨_,Array.getElem?_eq_getElem (by simp;omega)⟩;have e1:=(hb.set (i*2) (.int .i64 (tA l j))).cell hx1;have e2:=((hb.set (i*2) (.int .i64 (tA l j))).set (i*2+1) (.int .i64 (tB l j))).cell hx2;clear hb hf hx1 hx2;generalize tA l i=a1 at *;generalize tB l i=a2 at *;generalize tA l j=b1 at *;generalize tB l j=b2 at *;generalize hn:l.length=n at *;go_enter Tryz.func336,Tryz.ntmps336;go_wp2_with fail
 go_region
 go_wp2_with fail
 go_end0
 exact ⟨rfl,HF.out⟩
def HpM (w:World) (hb g cap:Nat) (l:LI):Prop :=
 Bk w hb #[.slice (some ⟨g,0,none⟩) l.length cap] 303/\(∃ c:Array Value,Bk w g c 32/\Fill c l l.length/\c.size=cap*2)/\l.length<=cap/\cap<=maxLen/\hb≠g
theorem HpM.keep {w w1:World} {hb g cap:Nat} {l:LI} (h:HpM w hb g cap l) (hx:Below w.heap.size w w1):HpM w1 hb g cap l:=by
 obtain ⟨h1,⟨c,h2,h3,h4⟩,h5⟩:=h;exact ⟨h1.keep hx,⟨c,h2.keep hx,h3,h4⟩,h5⟩
abbrev hIf (hb:Nat):Value:= .iface 305 (.pointer (some ⟨hb,0,none⟩))
theorem HpM.swap {w w1:World} {hb g cap:Nat} {l:LI} {i j:Nat} {c':Array Value} (h:HpM w hb g cap l) (hb1:Bk w1 g c' 32) (hf:Fill c' (swapT l i j) l.length) (hs:c'.size=cap*2) (hx:Bx g w w1):HpM w1 hb g cap (swapT l i j):=by
 obtain ⟨h1,_,h3,h4,h5⟩:=h;refine ⟨?_,⟨c',hb1,by rw [swap_len];exact hf,hs⟩,by rw [swap_len];exact h3,h4,h5⟩;unfold Bk;rw [hx.block hb h1.lt h5,swap_len];exact h1
theorem half_int {j:Nat} (h:0<j):((j:Int)-1).tdiv 2=(((j-1) / 2:Nat):Int):=by
 rw [Int.tdiv_eq_ediv_of_nonneg (by omega)];omega
theorem hUp_any {hb g cap j0:Nat} {l:LI} {w:World} (h:HpM w hb g cap l) (hu:UpI l l j0) (hl:l.length<=1000000) :
  Calls Tryz.prog 279 #[hIf hb, .int .i64 j0] w fun e w'=>e= .returned (.tuple #[])/\∃ c:LI,HpM w' hb g cap c/\c.length=l.length/\(∀ x,x∈c↔x∈l)/\HeapLow c l.length 0/\Bx g w w':=by
 go_enter Tryz.func279,Tryz.ntmps279;go_wp2_with fail
 go_loopw [1] (fun i wr=>∃ (j:Nat) (c:LI),i= .int .i64 j/\HpM wr hb g cap c/\UpI l c j/\Bx g w wr) (fun i _=>(intOf i).toNat)
 case atStart=>exact ⟨j0,l,rfl,h,hu,Bx.refl _ _⟩
 case round =>
  clear h hu;obtain ⟨j,c,rfl,hM,hU,hx⟩:=hrel;have hlt:=hU.lt;have hlen:=hU.len
  by_cases hj:j=0
  ·subst hj;have i1:IntKind.i64.wrap (((0:Nat):Int)-1) = -1:=by decide
   have i2:IntKind.i64.wrap ((-1:Int).tdiv 2)=0:=by decide
   have hfin:=hU.stop0;go_wp2_with fail
   go_end0
   exact ⟨rfl,c,hM,hlen,hU.mem,hfin,hx⟩
  ·have i1:IntKind.i64.wrap ((j:Int)-1)=(j:Int)-1:=by rw [IntKind.wrap_i64];omega
   have i2:IntKind.i64.wrap (((j:Int)-1).tdiv 2)=(((j-1) / 2:Nat):Int):=by rw [half_int (by omega),IntKind.wrap_i64];omega
   have i3:((((j-1) / 2:Nat):Int)==(j:Int))=false:=beq_eq_false_iff_ne.2 (by omega);have hi':(j-1) / 2<c.length:=by omega
   have hj':j<c.length:=by omega
   have hpos:0<j:=by omega
   have HM:=(show Hid (HpM wr hb g cap c) from hM);obtain ⟨hbk,⟨cc,hbg,hfill,hcs⟩,hcap,hcm,hne⟩:=hM;have mLs:=m_less hbk;have HU:=(show Hid (UpI l c j) from hU);have HBG:=(show Hid (Bk wr g cc 32/\Fill cc c c.length/\cc.size=cap*2) from ⟨hbg,hfill,hcs⟩);have HLEN:=(show Hid (c.length=l.length) from hlen);clear hU hbg hfill hcs hbk hlen;generalize hI:(j-1) / 2=i at *;have HI:=(show Hid ((j-1) / 2=i) from hI);clear hI;cases hr:ltT (gt c j) (gt c i)
   ·go_wp2_with fail;refine (hLess_any HBG.out.1 HBG.out.2.1 hj' hi' hr).mono ?_;rintro e w1 ⟨rfl,hb1⟩;go_wp2_with fail
    go_end0
    exact ⟨rfl,c,HM.out.keep hb1,HLEN.out,HU.out.mem,HU.out.stop1 (by rw [HI.out];exact hr),hx.trans (Bx.of_below hb1)⟩
   ·go_wp2_with fail;refine (hLess_any HBG.out.1 HBG.out.2.1 hj' hi' hr).mono ?_;rintro e w1 ⟨rfl,hb1⟩;have HM1:=(show Hid (HpM w1 hb g cap c) from HM.out.keep hb1);obtain ⟨hbk1,⟨cc1,hbg1,hfill1,hcs1⟩,-,-,-⟩:=HM.out.keep hb1;have mSw:=m_swap hbk1;clear mLs;go_wp2_with fail;refine (hSwap_any hbg1 hfill1 (by omega) hi' hj').mono ?_;rintro e w2 ⟨rfl,c2,hb2,hf2,hs2,hx2⟩;have HM2:=(show Hid (HpM w2 hb g cap (swapT c i j)) from HM1.out.swap hb2 hf2 (by omega) hx2);have HU2:=(show Hid (UpI l (swapT c i j) i) from by have:=HU.out.step hpos (by rw [HI.out];exact hr);rw [HI.out] at this;exact this);have hij:i<j:=by have:=HI.out;omega
    clear mSw hbk1 hbg1 hfill1 hb2 hf2;go_wp2_with fail;go_roundw
    case rel=>exact ⟨i,swapT c i j,rfl,HM2.out,HU2.out,(hx.trans (Bx.of_below hb1)).trans hx2⟩
    case measure=>simp [intOf];omega
theorem hLess_at {g cap i j:Nat} {a b:Int} {c:Array Value} {l:LI} {w:World} (hb:Bk w g c 32) (hf:Fill c l l.length) (ha:a=(i:Int)) (hbb:b=(j:Int)) (hi:i<l.length) (hj:j<l.length) {r:Bool} (hr:ltT (gt l i) (gt l j)=r) :
  Calls Tryz.prog 335 #[.slice (some ⟨g,0,none⟩) l.length cap, .int .i64 a, .int .i64 b] w fun e w'=>e= .returned (.bool r)/\Below w.heap.size w w':=by
 subst ha hbb;exact hLess_any hb hf hi hj hr
theorem hSwap_at {g cap i j:Nat} {a b:Int} {c:Array Value} {l:LI} {w:World} (hb:Bk w g c 32) (hf:Fill c l l.length) (ha:a=(i:Int)) (hbb:b=(j:Int)) (hs:l.length*2<=c.size) (hi:i<l.length) (hj:j<l.length) :
  Calls Tryz.prog 336 #[.slice (some ⟨g,0,none⟩) l.length cap, .int .i64 a, .int .i64 b] w fun e w'=>e= .returned (.tuple #[])/\∃ c':Array Value,Bk w' g c' 32/\Fill c' (swapT l i j) l.length/\c'.size=c.size/\Bx g w w':=by
 subst ha hbb;exact hSwap_any hb hf hs hi hj
theorem hDown_any {hb g cap i0 n:Nat} {l:LI} {w:World} (h:HpM w hb g cap l) (hlow:HeapLow l n (i0+1)) (hn:n<=l.length) (hi0:i0<=n) (hl:l.length<=1000000) :
  Calls Tryz.prog 278 #[hIf hb, .int .i64 i0, .int .i64 n] w fun e w'=>(∃ v,e= .returned v)/\∃ c:LI,HpM w' hb g cap c/\c.length=l.length/\(∀ x,x∈c↔x∈l)/\(∀ k,n<=k->gt c k=gt l k)/\HeapLow c n i0/\Bx g w w':=by
 go_enter Tryz.func278,Tryz.ntmps278;go_wp2_with fail
 go_loopw [7] (fun i wr=>∃ (j:Nat) (c:LI),i= .int .i64 j/\j<=n/\HpM wr hb g cap c/\DnI l c i0 n j/\Bx g w wr) (fun i _=>n-(intOf i).toNat)
 case atStart=>exact ⟨i0,l,rfl,hi0,h,DnI.start hlow,Bx.refl _ _⟩
 case round =>
  clear h hlow;obtain ⟨i,c,rfl,hin,hM,hD,hx⟩:=hrel;have hlen:=hD.len;have i1:IntKind.i64.wrap (2*(i:Int))=2*(i:Int):=by rw [IntKind.wrap_i64];omega
  have i2:IntKind.i64.wrap (2*(i:Int)+1)=2*(i:Int)+1:=by rw [IntKind.wrap_i64];omega
  by_cases h1:n<=2*i+1
  ·have g1:(n:Int)<=2*(i:Int)+1:=by omega
   have hfin:=hD.stop1 h1;have HFIN:=(show Hid (∃ c:LI,HpM wr hb g cap c/\c.length=l.length/\(∀ x,x∈c↔x∈l)/\(∀ k,n<=k->gt c k=gt l k)/\HeapLow c n i0/\Bx g w wr) from ⟨c,hM,hlen,hD.mem,hD.far,hfin,hx⟩);clear hM hD hfin hlen;go_wp2_with fail;go_ret;exact ⟨⟨_,rfl⟩,HFIN.out⟩
  ·have g1:¬ ((n:Int)<=2*(i:Int)+1):=by omega
   have g2:¬ (2*(i:Int)+1<0):=by omega
   have i3:IntKind.i64.wrap (2*(i:Int)+1+1)=2*(i:Int)+1+1:=by rw [IntKind.wrap_i64];omega
   have k1:Hid (2*(i:Int)+1=((2*i+1:Nat):Int)):=by show _=_;omega
   have k2:Hid (2*(i:Int)+1+1=((2*i+2:Nat):Int)):=by show _=_;omega
   have hic:i<c.length:=by omega
   have hc1:2*i+1<c.length:=by omega
   have HM:=(show Hid (HpM wr hb g cap c) from hM);have HD:=(show Hid (DnI l c i0 n i) from hD);have HLEN:=(show Hid (c.length=l.length) from hlen);obtain ⟨hbk,⟨cc,hbg,hfill,hcs⟩,hcap,hcm,hne⟩:=hM;have HBG:=(show Hid (Bk wr g cc 32/\Fill cc c c.length/\cc.size=cap*2) from ⟨hbg,hfill,hcs⟩);have HBK:=(show Hid (Bk wr hb #[.slice (some ⟨g,0,none⟩) c.length cap] 303) from hbk);have hclen:c.length<=1000000:=by omega
   clear hD hbg hfill hcs hbk hlen
   by_cases h2:2*i+2<n
   ·have g3:2*(i:Int)+1+1<(n:Int):=by omega
    have hc2:2*i+2<c.length:=by have:=HLEN.out;omega
    have mLs:=m_less HBK.out;cases hq:ltT (gt c (2*i+2)) (gt c (2*i+1))
    ·have HL2:=(show Hid (Least2 c n i (2*i+1)) from least_1 (by omega) (fun _=>hq));go_wp2_with fail;refine (hLess_at HBG.out.1 HBG.out.2.1 (i:=2*i+2) (j:=2*i+1) k2.out k1.out hc2 hc1 hq).mono ?_;rintro e w1 ⟨rfl,hb1⟩;clear mLs;cases hr:ltT (gt c (2*i+1)) (gt c i)
     ·have mLs2:=m_less (HBK.out.keep hb1);go_wp2_with fail;refine (hLess_at (HBG.out.1.keep hb1) HBG.out.2.1 (i:=2*i+1) (j:=i) k1.out rfl (by omega) hic hr).mono ?_;rintro e w3 ⟨rfl,hb3⟩;have HFIN:=(show Hid (∃ c:LI,HpM w3 hb g cap c/\c.length=l.length/\(∀ x,x∈c↔x∈l)/\(∀ k,n<=k->gt c k=gt l k)/\HeapLow c n i0/\Bx g w w3) from ⟨c,(HM.out.keep hb1).keep hb3,HLEN.out,HD.out.mem,HD.out.far,HD.out.stop2 HL2.out hr,(hx.trans (Bx.of_below hb1)).trans (Bx.of_below hb3)⟩);clear mLs2;go_wp2_with fail;go_ret;exact ⟨⟨_,rfl⟩,HFIN.out⟩
     ·have mLs2:=m_less (HBK.out.keep hb1);go_wp2_with fail;refine (hLess_at (HBG.out.1.keep hb1) HBG.out.2.1 (i:=2*i+1) (j:=i) k1.out rfl (by omega) hic hr).mono ?_;rintro e w3 ⟨rfl,hb3⟩;have hb4:Below wr.heap.size wr w3:=bSz hb1 hb3;have HM3:=(show Hid (HpM w3 hb g cap c) from HM.out.keep hb4);have mSw:=m_swap (HBK.out.keep hb4);have hcs3:=HBG.out.2.2;clear mLs2;go_wp2_with fail;refine (hSwap_at (HBG.out.1.keep hb4) HBG.out.2.1 (i:=i) (j:=2*i+1) rfl k1.out (by omega) hic (by omega)).mono ?_;rintro e w5 ⟨rfl,c2,hb5,hf5,hs5,hx5⟩;have HM5:=(show Hid (HpM w5 hb g cap (swapT c i (2*i+1))) from HM3.out.swap hb5 hf5 (by omega) hx5);have HD5:=(show Hid (DnI l (swapT c i (2*i+1)) i0 n (2*i+1)) from HD.out.step hn HL2.out hr);clear mSw hb5 hf5;go_wp2_with fail;go_roundw
      case rel=>exact ⟨2*i+1,swapT c i (2*i+1),congrArg _ k1.out,by omega,HM5.out,HD5.out,(hx.trans (Bx.of_below hb4)).trans hx5⟩
      case measure=>simp [intOf];omega
    ·have HL2:=(show Hid (Least2 c n i (2*i+2)) from least_2 h2 hq);go_wp2_with fail;refine (hLess_at HBG.out.1 HBG.out.2.1 (i:=2*i+2) (j:=2*i+1) k2.out k1.out hc2 hc1 hq).mono ?_;rintro e w1 ⟨rfl,hb1⟩;clear mLs;cases hr:ltT (gt c (2*i+2)) (gt c i)
     ·have mLs2:=m_less (HBK.out.keep hb1);go_wp2_with fail;refine (hLess_at (HBG.out.1.keep hb1) HBG.out.2.1 (i:=2*i+2) (j:=i) k2.out rfl (by omega) hic hr).mono ?_;rintro e w3 ⟨rfl,hb3⟩;have HFIN:=(show Hid (∃ c:LI,HpM w3 hb g cap c/\c.length=l.length/\(∀ x,x∈c↔x∈l)/\(∀ k,n<=k->gt c k=gt l k)/\HeapLow c n i0/\Bx g w w3) from ⟨c,(HM.out.keep hb1).keep hb3,HLEN.out,HD.out.mem,HD.out.far,HD.out.stop2 HL2.out hr,(hx.trans (Bx.of_below hb1)).trans (Bx.of_below hb3)⟩);clear mLs2;go_wp2_with fail;go_ret;exact ⟨⟨_,rfl⟩,HFIN.out⟩
     ·have mLs2:=m_less (HBK.out.keep hb1);go_wp2_with fail;refine (hLess_at (HBG.out.1.keep hb1) HBG.out.2.1 (i:=2*i+2) (j:=i) k2.out rfl (by omega) hic hr).mono ?_;rintro e w3 ⟨rfl,hb3⟩;have hb4:Below wr.heap.size wr w3:=bSz hb1 hb3;have HM3:=(show Hid (HpM w3 hb g cap c) from HM.out.keep hb4);have mSw:=m_swap (HBK.out.keep hb4);have hcs3:=HBG.out.2.2;clear mLs2;go_wp2_with fail;refine (hSwap_at (HBG.out.1.keep hb4) HBG.out.2.1 (i:=i) (j:=2*i+2) rfl k2.out (by omega) hic (by omega)).mono ?_;rintro e w5 ⟨rfl,c2,hb5,hf5,hs5,hx5⟩;have HM5:=(show Hid (HpM w5 hb g cap (swapT c i (2*i+2))) from HM3.out.swap hb5 hf5 (by omega) hx5);have HD5:=(show Hid (DnI l (swapT c i (2*i+2)) i0 n (2*i+2)) from HD.out.step hn HL2.out hr);clear mSw hb5 hf5;go_wp2_with fail;go_roundw
      case rel=>exact ⟨2*i+2,swapT c i (2*i+2),congrArg _ k2.out,by omega,HM5.out,HD5.out,(hx.trans (Bx.of_below hb4)).trans hx5⟩
      case measure=>simp [intOf];omega
   ·have g3:¬ (2*(i:Int)+1+1<(n:Int)):=by omega
    have HL2:=(show Hid (Least2 c n i (2*i+1)) from least_1 (by omega) (fun e=>absurd e h2));have hb1:Below wr.heap.size wr wr:=Below.refl _ _;cases hr:ltT (gt c (2*i+1)) (gt c i)
    ·have mLs2:=m_less (HBK.out.keep hb1);go_wp2_with fail;refine (hLess_at (HBG.out.1.keep hb1) HBG.out.2.1 (i:=2*i+1) (j:=i) k1.out rfl (by omega) hic hr).mono ?_;rintro e w3 ⟨rfl,hb3⟩;have HFIN:=(show Hid (∃ c:LI,HpM w3 hb g cap c/\c.length=l.length/\(∀ x,x∈c↔x∈l)/\(∀ k,n<=k->gt c k=gt l k)/\HeapLow c n i0/\Bx g w w3) from ⟨c,(HM.out.keep hb1).keep hb3,HLEN.out,HD.out.mem,HD.out.far,HD.out.stop2 HL2.out hr,(hx.trans (Bx.of_below hb1)).trans (Bx.of_below hb3)⟩);clear mLs2;go_wp2_with fail;go_ret;exact ⟨⟨_,rfl⟩,HFIN.out⟩
    ·have mLs2:=m_less (HBK.out.keep hb1);go_wp2_with fail;refine (hLess_at (HBG.out.1.keep hb1) HBG.out.2.1 (i:=2*i+1) (j:=i) k1.out rfl (by omega) hic hr).mono ?_;rintro e w3 ⟨rfl,hb3⟩;have hb4:Below wr.heap.size wr w3:=bSz hb1 hb3;have HM3:=(show Hid (HpM w3 hb g cap c) from HM.out.keep hb4);have mSw:=m_swap (HBK.out.keep hb4);have hcs3:=HBG.out.2.2;clear mLs2;go_wp2_with fail;refine (hSwap_at (HBG.out.1.keep hb4) HBG.out.2.1 (i:=i) (j:=2*i+1) rfl k1.out (by omega) hic (by omega)).mono ?_;rintro e w5 ⟨rfl,c2,hb5,hf5,hs5,hx5⟩;have HM5:=(show Hid (HpM w5 hb g cap (swapT c i (2*i+1))) from HM3.out.swap hb5 hf5 (by omega) hx5);have HD5:=(show Hid (DnI l (swapT c i (2*i+1)) i0 n (2*i+1)) from HD.out.step hn HL2.out hr);clear mSw hb5 hf5;go_wp2_with fail;go_roundw
     case rel=>exact ⟨2*i+1,swapT c i (2*i+1),congrArg _ k1.out,by omega,HM5.out,HD5.out,(hx.trans (Bx.of_below hb4)).trans hx5⟩
     case measure=>simp [intOf];omega
structure HF (hb:Nat) (w w':World):Prop where
 os:w'.os=w.os
 tape:w'.tape=w.tape
 output:w'.output=w.output
 size:w.heap.size<=w'.heap.size
 keep:∀ k,k<w.heap.size->k≠hb->arrOf w hb≠some k->w'.heap[k]?=w.heap[k]?
 arr:arrOf w' hb=arrOf w hb\/∃ q,arrOf w' hb=some q/\w.heap.size<=q/\q<w'.heap.size
theorem HF.refl (hb:Nat) (w:World):HF hb w w:=⟨rfl,rfl,rfl,Nat.le_refl _,fun _ _ _ _=>rfl, .inl rfl⟩
theorem HF.trans {hb:Nat} {A B C:World} (h:HF hb A B) (k:HF hb B C):HF hb A C where
 os:=k.os.trans h.os
 tape:=k.tape.trans h.tape
 output:=k.output.trans h.output
 size:=Nat.le_trans h.size k.size
 keep i hi hm ha:=by
  rw [<- h.keep i hi hm ha];refine k.keep i (Nat.lt_of_lt_of_le hi h.size) hm ?_
  rcases h.arr with e|⟨q,e,hq,_⟩
  ·rw [e];exact ha
  ·rw [e];intro e';cases e';omega
 arr:=by
  rcases k.arr with e|⟨q,e,hq,hq'⟩
  ·rcases h.arr with e1|⟨q,e1,hq,hq'⟩
   ·exact .inl (e.trans e1)
   ·exact .inr ⟨q,e.trans e1,hq,Nat.lt_of_lt_of_le hq' k.size⟩
  ·exact .inr ⟨q,e,Nat.le_trans h.size hq,hq'⟩
theorem HF.below {hb:Nat} {W W':World} (h:Below W.heap.size W W') (hm:hb<W.heap.size):HF hb W W' :=
 ⟨h.os,h.tape,h.output,h.size,fun k hk _ _=>h.block k hk, .inl (aB (h.block hb hm))⟩
theorem arrOf_bk {w:World} {hb:Nat} {v:Value} {t:TypeId} (h:Bk w hb #[v] t):arrOf w hb=v.ownBlock:=by
 unfold arrOf;rw [h.cell (i:=0) (v:=v) rfl];rfl
theorem HF.arrBx {hb g:Nat} {w w':World} {v:Value} {t:TypeId} (h:Bx g w w') (hbk:Bk w hb #[v] t) (hv:v.ownBlock=some g) (hne:hb≠g):HF hb w w':=by
 have e:=arrOf_bk hbk;refine ⟨h.os,h.tape,h.output,h.size,fun k hk _ ha=>h.block k hk (fun e'=>ha (by rw [e,hv,e'])), .inl (aB (h.block hb hbk.lt hne))⟩
theorem HF.boxBx {hb:Nat} {w w':World} {v v':Value} {t:TypeId} (h:Bx hb w w') (hbk:Bk w hb #[v] t) (hbk':Bk w' hb #[v'] t) (hv:v'.ownBlock=v.ownBlock):HF hb w w' :=
 ⟨h.os,h.tape,h.output,h.size,fun k hk hm _=>h.block k hk hm, .inl (by rw [arrOf_bk hbk,arrOf_bk hbk',hv])⟩
theorem HF.bk {hb:Nat} {w w':World} {k:Nat} {c:Array Value} {t:TypeId} (h:HF hb w w') (hk:Bk w k c t) (hm:k≠hb) (ha:arrOf w hb≠some k):Bk w' k c t:=by
 unfold Bk;rw [h.keep k hk.lt hm ha];exact hk
def Hp (w:World) (hb:Nat) (l:LI):Prop:=∃ v:Value,Bk w hb #[v] 303/\Own w 0 v l/\v.ownBlock≠some hb
theorem Hp.keep {w w1:World} {hb:Nat} {l:LI} (h:Hp w hb l) (hx:Below w.heap.size w w1):Hp w1 hb l:=by
 obtain ⟨v,h1,h2,h3⟩:=h;exact ⟨v,h1.keep hx,oK h2 hx,h3⟩
theorem Hp.open {w:World} {hb:Nat} {l:LI} (h:Hp w hb l):(Bk w hb #[.slice none 0 0] 303/\l=[])\/∃ g cap,HpM w hb g cap l:=by
 obtain ⟨v,h1,h2,h3⟩:=h
 rcases own_open h2 with ⟨rfl,rfl⟩|⟨g,cap,c,rfl,_,hb1,hs,hc,hm,hf⟩
 ·exact .inl ⟨h1,rfl⟩
 ·exact .inr ⟨g,cap,h1,⟨c,hb1,hf,hs⟩,hc,hm,fun e=>h3 (by rw [e];rfl)⟩
theorem HpM.hp {w:World} {hb g cap:Nat} {l:LI} (h:HpM w hb g cap l):Hp w hb l:=by
 obtain ⟨h1,⟨c,h2,h3,h4⟩,h5,h6,h7⟩:=h;exact ⟨_,h1,own_of_fill h2 h3 h4 h5 h6 (Nat.zero_le _),fun e=>h7 (by simpa [Value.ownBlock] using e.symm)⟩
theorem HpM.frame {w w1:World} {hb g cap:Nat} {l:LI} (h:HpM w hb g cap l) (hx:Bx g w w1):HF hb w w1:=HF.arrBx hx h.1 rfl h.2.2.2.2
theorem HpM.pop {w w1:World} {hb g cap k:Nat} {l:LI} (h:HpM w hb g cap l) (hk:l.length=k+1) (hb1:Bk w1 hb #[.slice (some ⟨g,0,none⟩) k cap] 303) (hx:Bx hb w w1):HpM w1 hb g cap (l.take k):=by
 obtain ⟨h1,⟨c,h2,h3,h4⟩,h5,h6,h7⟩:=h;have e:(l.take k).length=k:=by rw [List.length_take];omega
 refine ⟨by rw [e];exact hb1,⟨c,h2.keepx hx (fun e'=>h7 e'.symm),fun i hi=>?_,h4⟩,by omega,h6,h7⟩;rw [e] at hi;have:=h3 i (by omega);have e1:tA (l.take k) i=tA l i:=congrArg (·.1) (gt_take (l:=l) hi);have e2:tB (l.take k) i=tB l i:=congrArg (·.2) (gt_take (l:=l) hi);rw [e1,e2];exact this
theorem tPop_any {hb g cap k:Nat} {l:LI} {w:World} (h:HpM w hb g cap l) (hk:l.length=k+1) :
  Calls Tryz.prog 337 #[.pointer (some ⟨hb,0,none⟩)] w fun e w'=>e= .returned (.iface 32 (tv (gt l k).1 (gt l k).2))/\HpM w' hb g cap (l.take k)/\Bx hb w w':=by
 have HM:=(show Hid (HpM w hb g cap l) from h);obtain ⟨hbk,⟨c,hbg,hfill,hcs⟩,hcap,hcm,hne⟩:=h;have c0:=hbk.cell (i:=0) rfl;have f0:=hbk.free 0;have hlb:=hbk.lt;have hlg:=hbg.lt;have q0:=hbg.cell (hfill k (by omega)).1;have q1:=hbg.cell (hfill k (by omega)).2;have HF1:Hid (∀ w',Bk w' hb #[.slice (some ⟨g,0,none⟩) k cap] 303->Bx hb w w'->HpM w' hb g cap (l.take k)):=fun w' h1 h2=>HM.out.pop hk h1 h2;have HB:=(show Hid (Bk w hb #[.slice (some ⟨g,0,none⟩) l.length cap] 303) from hbk);have i1:IntKind.i64.wrap ((l.length:Int)-1)=(k:Int):=by unfold maxLen at hcm;rw [IntKind.wrap_i64];omega
 have i2:(k:Int)<(l.length:Int):=by omega
 have i3:(k:Int)<=(cap:Int):=by omega
 have i4:k<=cap:=by omega
 have i5:k<l.length:=by omega
 rw [gt_tv];clear hbk hbg hfill hcs hk;generalize tA l k=X at *;generalize tB l k=Y at *;generalize l.length=n at *;go_enter Tryz.func337,Tryz.ntmps337;go_wp2_with fail;go_ret;have b1:=((HB.out.set 0 (.slice (some ⟨g,0,none⟩) k cap)).alloc (.cells #[.int .i64 X, .int .i64 Y] 32));have x1:=((Bx.refl hb w).setG (p:=⟨hb,0,none⟩) rfl (.slice (some ⟨g,0,none⟩) k cap)).alloc (.cells #[.int .i64 X, .int .i64 Y] 32);exact ⟨rfl,HF1.out _ b1 x1,x1⟩
theorem HF.grow {m:Nat} {W W1:World} {v u:Value} {t:TypeId} (hb:Bk W m #[v] t) (hg:W.grownBy W1 v.ownBlock) (hv:v.ownBlock≠some m) (hu:u.ownBlock=v.ownBlock\/∃ q,u.ownBlock=some q/\W.heap.size<=q/\q<W1.heap.size) :
  Bk (W1.setCell ⟨m,0,none⟩ u) m #[u] t/\HF m W (W1.setCell ⟨m,0,none⟩ u):=by
 have hm:=hb.lt;have e0:arrOf W m=v.ownBlock:=arrOf_bk hb;have hb1:Bk W1 m #[v] t:=by
  unfold Bk;rw [hg.block m hm (fun e=>hv e.symm)];exact hb
 have hb2:=hb1.set 0 u;have hz:(W1.setCell ⟨m,0,none⟩ u).heap.size=W1.heap.size:=by simp
 refine ⟨hb2,?_,?_,?_,by rw [hz];exact hg.size,fun k hk hkm ha=>?_,?_⟩
 ·exact hg.os
 ·exact hg.tape
 ·exact hg.output
 ·rw [Below.heap_setCell _ _ _ _ (show k≠(⟨m,0,none⟩:Addr).block from hkm),hg.block k hk (fun e=>ha (by rw [e0,e]))]
 ·rw [arrOf_bk hb2,e0,hz];exact hu
section
variable {P:Program}
theorem step_push {ops:Array Oper} {o:Oper} {a:Act} {K:Act->World->Prop} {Q:Exit->Act->World->Prop} {E:Prop} (w:World) (hgd:o.guard=none) (s x:Operand)
  (ho:o.op= .call { callee:= .builtin .append,args:=#[s,x],argTypes:=#[303,303] }) (v:Value) (l:LI) (hs:a.eval s=v) (hown:Own w 0 v l) (g0:Nat) (X Y:Int)
  (hx:a.eval x= .slice (some ⟨g0,0,none⟩) 1 1) (hc:∀ j u,[Value.int .i64 X,Value.int .i64 Y][j]?=some u->w.cell? ((⟨g0,0,none⟩:Addr).add j)=some u) (hl:l.length<=2000000)
  (h:∀ g cap w',Own w' 0 (.slice (some ⟨g,0,none⟩) (l.length+1) cap) (l++[(X,Y)])->w.grownBy w' v.ownBlock->(v.ownBlock=some g\/g=w.heap.size)->g<w'.heap.size->K (a.put o.dst (.slice (some ⟨g,0,none⟩) (l.length+1) cap)) w') :
  if Region.wanted o (yielded ops a.tmps)=true then Oper.wp Tryz.prog o a w K Q else E:=by
 obtain ⟨i0,hi,hz0,hz1,hz2⟩:=info_parts infoT;refine step_append_lies (P:=Tryz.prog) (w:=w) hgd s x 303 ho 0 32 i0 (.agg #[.int .i64 0, .int .i64 0]) 2 16 Tryz.underlying303 hi hz0 hz1 hz2 rfl (by decide) v l.length (cellsL l) hs hown ⟨g0,0,none⟩ 1 1 [.int .i64 X, .int .i64 Y] hx rfl hc (ones2 _ _) (by omega) (by unfold maxLen;omega) (by omega) (Nat.zero_le _) w.heap.size rfl ?_;intro g cap w' h1 h2 h3 h4;refine h g cap w' ?_ h2 h3 h4
 show w'.ownsRow _ _ _ _ _ _
 rw [cellsL_snoc];simpa using h1
end
theorem ta_time (X Y:Int) (w:World):(Instr.typeAssert (.iface 32 (tv X Y)) 20 32 false).run Tryz.prog w= .ok (tv X Y) w:=by kernel_rfl
theorem push_fin {hb:Nat} {w w1 w4:World} {v:Value} {l:LI} {X Y:Int} {g cap:Nat} (hbk:Bk w hb #[v] 303) (hv:v.ownBlock≠some hb) (hb1:Below w.heap.size w w1) (h1:Own w4 0 (.slice (some ⟨g,0,none⟩) (l.length+1) cap) (l++[(X,Y)])) (h2:w1.grownBy w4 v.ownBlock) (h3:v.ownBlock=some g\/g=w1.heap.size) (h4:g<w4.heap.size) :
  w4.frozen? ⟨hb,0,none⟩=false/\w4.cell? ⟨hb,0,none⟩=some v/\Hid (Hp (w4.setCell ⟨hb,0,none⟩ (.slice (some ⟨g,0,none⟩) (l.length+1) cap)) hb (l++[(X,Y)])/\HF hb w (w4.setCell ⟨hb,0,none⟩ (.slice (some ⟨g,0,none⟩) (l.length+1) cap))):=by
 have hbk1:=hbk.keep hb1;have hb4:Bk w4 hb #[v] 303:=by unfold Bk;rw [h2.block hb hbk1.lt (fun e=>hv e.symm)];exact hbk1
 have hg:g≠hb:=by
  rcases h3 with h3|h3
  ·intro e;exact hv (by rw [h3,e])
  ·have:=hbk1.lt;omega
 obtain ⟨q1,q2⟩:=HF.grow (u:= .slice (some ⟨g,0,none⟩) (l.length+1) cap) hbk1 h2 hv (by
  rcases h3 with h3|h3
  ·exact .inl (by rw [h3];rfl)
  ·exact .inr ⟨g,rfl,by omega,h4⟩)
 refine ⟨hb4.free 0,hb4.cell (i:=0) (v:=v) rfl,⟨_,q1,?_,fun e=>hg (by simpa [Value.ownBlock] using e)⟩,(HF.below hb1 hbk.lt).trans q2⟩;exact oAz h1 fun q e=>Below.heap_setCell _ _ _ _ (show q≠hb from fun e'=>hg (by rw [<- e'];simpa [Value.ownBlock] using e))
theorem tPush_any {hb:Nat} {l:LI} {w:World} {X Y:Int} (h:Hp w hb l) (hl:l.length<=1000000) :
  Calls Tryz.prog 338 #[.pointer (some ⟨hb,0,none⟩), .iface 32 (tv X Y)] w fun e w'=>e= .returned (.tuple #[])/\Hp w' hb (l++[(X,Y)])/\HF hb w w':=by
 obtain ⟨v,hbk,hown,hv⟩:=h;have c0:=hbk.cell (i:=0) (v:=v) rfl;have f0:=hbk.free 0;have hlb:=hbk.lt;have hbN:Below w.heap.size w (w.drew.alloc (.cells #[.int .i64 X, .int .i64 Y] 32)):=bAz (Below.refl _ _).drew _;have OWN:Hid (Own (w.drew.alloc (.cells #[.int .i64 X, .int .i64 Y] 32)) 0 v l):=oK hown hbN;have HP:Hid (∀ g cap w4,Own w4 0 (.slice (some ⟨g,0,none⟩) (l.length+1) cap) (l++[(X,Y)])->(w.drew.alloc (.cells #[.int .i64 X, .int .i64 Y] 32)).grownBy w4 v.ownBlock->(v.ownBlock=some g\/g=(w.drew.alloc (.cells #[.int .i64 X, .int .i64 Y] 32)).heap.size)->g<w4.heap.size ->
   w4.frozen? ⟨hb,0,none⟩=false/\w4.cell? ⟨hb,0,none⟩=some v/\Hid (Hp (w4.setCell ⟨hb,0,none⟩ (.slice (some ⟨g,0,none⟩) (l.length+1) cap)) hb (l++[(X,Y)])/\HF hb w (w4.setCell ⟨hb,0,none⟩ (.slice (some ⟨g,0,none⟩) (l.length+1) cap)))):=fun g cap w4 h1 h2 h3 h4=>push_fin hbk hv hbN h1 h2 h3 h4
 have HN:Hid (∀ j u,[Value.int .i64 X,Value.int .i64 Y][j]?=some u->(w.drew.alloc (.cells #[.int .i64 X, .int .i64 Y] 32)).cell? ((⟨w.drew.heap.size,0,none⟩:Addr).add j)=some u):=news2 _ _ _ _;have ta:=ta_time X Y w.drew;clear hbk hown hv hbN;go_enter Tryz.func338,Tryz.ntmps338;go_wp2_with fail
 go_region_law (refine step_push _ (by rfl) (.tmp 7) (.tmp 10) (by rfl) v l (by simp [Act.eval]) OWN.out w.heap.size X Y (by simp [Act.eval]) HN.out (by omega) ?_;intro g3 cap3 w4 o1 o2 o3 o4;obtain ⟨fz,cz,FIN⟩:=HP.out _ _ _ o1 o2 o3 o4;clear o1 o2 o3 o4)
 all_goals
  go_wp2_with fail
  go_end0
  exact ⟨rfl,FIN.out⟩
theorem hDown_at {hb g cap i0 n:Nat} {a b:Int} {l:LI} {w:World} (h:HpM w hb g cap l) (hlow:HeapLow l n (i0+1)) (hn:n<=l.length) (hi0:i0<=n) (hl:l.length<=1000000) (ha:a=(i0:Int)) (hb':b=(n:Int)) :
  Calls Tryz.prog 278 #[hIf hb, .int .i64 a, .int .i64 b] w fun e w'=>(∃ v,e= .returned v)/\∃ c:LI,HpM w' hb g cap c/\c.length=l.length/\(∀ x,x∈c↔x∈l)/\(∀ k,n<=k->gt c k=gt l k)/\HeapLow c n i0/\Bx g w w':=by
 subst ha hb';exact hDown_any h hlow hn hi0 hl
theorem hUp_at {hb g cap j0:Nat} {a:Int} {l:LI} {w:World} (h:HpM w hb g cap l) (hu:UpI l l j0) (hl:l.length<=1000000) (ha:a=(j0:Int)) :
  Calls Tryz.prog 279 #[hIf hb, .int .i64 a] w fun e w'=>e= .returned (.tuple #[])/\∃ c:LI,HpM w' hb g cap c/\c.length=l.length/\(∀ x,x∈c↔x∈l)/\HeapLow c l.length 0/\Bx g w w':=by
 subst ha;exact hUp_any h hu hl
theorem hPop_any {hb:Nat} {l:LI} {w:World} (h:Hp w hb l) (hL:HeapLow l l.length 0) (h0:0<l.length) (hl:l.length<=1000000) :
  Calls Tryz.prog 263 #[hIf hb] w fun e w'=>e= .returned (.iface 32 (tv (gt l 0).1 (gt l 0).2))/\∃ c:LI,Hp w' hb c/\c.length+1=l.length/\(∀ x,x∈l↔x=gt l 0\/x∈c)/\HeapLow c c.length 0/\HF hb w w':=by
 rcases h.open with ⟨_,rfl⟩|⟨g,cap,hM⟩
 ·simp at h0
 obtain ⟨k,hk⟩:∃ k,l.length=k+1:=⟨l.length-1,by omega⟩;have HM:=(show Hid (HpM w hb g cap l) from hM);obtain ⟨hbk,⟨cc,hbg,hfill,hcs⟩,hcap,hcm,hne⟩:=hM;have mLn:=m_len hbk;have mSw:=m_swap hbk;have HBG:=(show Hid (Bk w g cc 32/\Fill cc l l.length/\cc.size=cap*2) from ⟨hbg,hfill,hcs⟩);have HK:=(show Hid (l.length=k+1) from hk);have HL0:=(show Hid (HeapLow l l.length 0) from hL);have i1:IntKind.i64.wrap ((l.length:Int)-1)=(k:Int):=by rw [IntKind.wrap_i64];omega
 clear hbk hbg hfill hcs h hk hL;go_enter Tryz.func263,Tryz.ntmps263;go_wp2_with fail;refine (hLen_any _ _ _ _).mono ?_;rintro e w0 ⟨rfl,rfl⟩;clear mLn;go_wp2_with fail;refine (hSwap_at (i:=0) (j:=k) HBG.out.1 HBG.out.2.1 rfl rfl (by have:=HBG.out.2.2;omega) (by omega) (by have:=HK.out;omega)).mono ?_;rintro e w1 ⟨rfl,c1,hb1,hf1,hs1,hx1⟩;have HM1:=(show Hid (HpM w1 hb g cap (swapT l 0 k)) from HM.out.swap hb1 hf1 (by have:=HBG.out.2.2;omega) hx1);have HLW:Hid (HeapLow (swapT l 0 k) k (0+1)):=by
  have:=pop_low HL0.out h0;rw [show l.length-1=k from by have:=HK.out;omega] at this;exact this
 clear mSw hb1 hf1;go_wp2_with fail;refine (hDown_at (i0:=0) (n:=k) HM1.out HLW.out (by rw [swap_len];have:=HK.out;omega) (by omega) (by rw [swap_len];exact hl) rfl rfl).mono ?_;rintro e w2 ⟨⟨v2,rfl⟩,c2,hM2,hc2,hm2,hfar,hlow,hx2⟩;have mPp:=m_pop ⟨hb,0,none⟩ w2;have HM2:=(show Hid (HpM w2 hb g cap c2) from hM2);have HC2:Hid (c2.length=k+1):=by show _=_;rw [hc2,swap_len];exact HK.out
 have HG:Hid (gt c2 k=gt l 0):=by
  show _=_
  rw [hfar k (Nat.le_refl _),swap_gt h0 (by have:=HK.out;omega),if_pos rfl]
 have HMM:Hid (∀ x,x∈l↔x=gt l 0\/x∈c2.take k):=fun x=>by
  have e:l.length-1=k:=by have:=HK.out;omega
  have:=pop_mem (c:=c2) h0 (.inr ⟨by rw [hc2,swap_len],by rw [e];exact hm2,fun k' hk'=>by rw [e] at hk' ⊢;exact hfar k' hk'⟩) x;rw [e] at this;exact this
 have HLo:Hid (HeapLow (c2.take k) (c2.take k).length 0):=heap_take hlow (by have:=HC2.out;omega);have HX:Hid (HF hb w0 w2):=HM.out.frame (hx1.trans hx2);clear hM2 hc2 hm2 hfar hlow;go_wp2_with fail;refine (tPop_any HM2.out HC2.out).mono ?_;rintro e w3 ⟨rfl,hM3,hx3⟩;have HF3:Hid (HF hb w2 w3):=HF.boxBx hx3 HM2.out.1 hM3.1 rfl;clear mPp hx3;go_wp2_with fail;go_ret;refine ⟨by rw [HG.out];rfl,c2.take k,hM3.hp,?_,HMM.out,HLo.out,HX.out.trans HF3.out⟩;rw [List.length_take];have:=HC2.out;have:=HK.out;omega
theorem hPush_any {hb:Nat} {l:LI} {w:World} {X Y:Int} (h:Hp w hb l) (hL:HeapLow l l.length 0) (hl:l.length+1<=1000000) :
  Calls Tryz.prog 264 #[hIf hb, .iface 32 (tv X Y)] w fun e w'=>e= .returned (.tuple #[])/\∃ c:LI,Hp w' hb c/\c.length=l.length+1/\(∀ x,x∈c↔x∈l\/x=(X,Y))/\HeapLow c c.length 0/\HF hb w w':=by
 have mPs:=m_push ⟨hb,0,none⟩ w;have HU:Hid (UpI (l++[(X,Y)]) (l++[(X,Y)]) l.length):=UpI.start hL;have HH:=(show Hid (Hp w hb l) from h);clear h hL;go_enter Tryz.func264,Tryz.ntmps264;go_wp2_with fail;refine (tPush_any (X:=X) (Y:=Y) HH.out (by omega)).mono ?_;rintro e w1 ⟨rfl,hH1,hF1⟩;have hlen:(l++[(X,Y)]).length=l.length+1:=by simp
 rcases hH1.open with ⟨_,e⟩|⟨g,cap,hM⟩
 ·simp at e
 have HM:=(show Hid (HpM w1 hb g cap (l++[(X,Y)])) from hM);have mLn:=m_len hM.1;have i1:IntKind.i64.wrap (((l++[(X,Y)]).length:Int)-1)=(l.length:Int):=by rw [IntKind.wrap_i64,hlen];omega
 have HLn:=(show Hid ((l++[(X,Y)]).length=l.length+1) from hlen);have HMem:Hid (∀ x,x∈l++[(X,Y)]↔x∈l\/x=(X,Y)):=fun x=>by simp
 clear mPs hH1 hM hlen;generalize hl1:l++[(X,Y)]=l1 at *;clear hl1;go_wp2_with fail;refine (hLen_any _ _ _ _).mono ?_;rintro e w0 ⟨rfl,rfl⟩;clear mLn;go_wp2_with fail;refine (hUp_at (j0:=l.length) HM.out HU.out (by have:=HLn.out;omega) rfl).mono ?_;rintro e w2 ⟨rfl,c,hM2,hc,hm,hlow,hx⟩;go_wp2_with fail
 go_end0
 refine ⟨rfl,c,hM2.hp,by have:=HLn.out;omega,fun x=>(hm x).trans (HMem.out x),by rw [hc];exact hlow,hF1.trans (HM.out.frame hx)⟩
theorem hInit_any {hb:Nat} {l:LI} {w:World} (h:Hp w hb l) (hl:l.length<=1000000) :
  Calls Tryz.prog 262 #[hIf hb] w fun e w'=>e= .returned (.tuple #[])/\∃ c:LI,Hp w' hb c/\c.length=l.length/\(∀ x,x∈c↔x∈l)/\HeapLow c c.length 0/\HF hb w w':=by
 obtain ⟨v,hbk,hown,hv⟩:=h;have HH:Hid (Hp w hb l):=⟨v,hbk,hown,hv⟩;obtain ⟨ad,cap,rfl⟩:∃ ad cap,v= .slice ad l.length cap:=by
  rcases own_open hown with ⟨rfl,rfl⟩|⟨g,cap,c,rfl,_⟩
  ·exact ⟨_,_,rfl⟩
  ·exact ⟨_,_,rfl⟩
 have mLn:=m_len hbk;clear hbk hown hv;obtain ⟨n,hn⟩:∃ n,l.length=n:=⟨_,rfl⟩;rw [hn] at mLn;have HN:=(show Hid (l.length=n) from hn);have i1:IntKind.i64.wrap ((n:Int).tdiv 2)=((n / 2:Nat):Int):=by
  rw [Int.tdiv_eq_ediv_of_nonneg (by omega),IntKind.wrap_i64];omega
 have HLo:Hid (HeapLow l n (n / 2)):=fun m h0 hm hi=>by omega
 obtain ⟨z,i2,hz⟩:∃ z:Int,IntKind.i64.wrap (((n / 2:Nat):Int)-1)=z/\((z = -1/\n / 2=0)\/∃ k:Nat,z=(k:Int)/\n / 2=k+1):=by
  by_cases h0:n / 2=0
  ·exact ⟨_,by rw [h0];rfl, .inl ⟨rfl,h0⟩⟩
  ·exact ⟨((n / 2-1:Nat):Int),by rw [IntKind.wrap_i64];omega, .inr ⟨_,rfl,by omega⟩⟩
 have HZ:=(show Hid ((z = -1/\n / 2=0)\/∃ k:Nat,z=(k:Int)/\n / 2=k+1) from hz);have hl':n<=1000000:=by omega
 clear hz hl hn;generalize hq:n / 2=q at i1 i2;clear hq;go_enter Tryz.func262,Tryz.ntmps262;go_wp2_with fail;refine (hLen_any _ _ _ _).mono ?_;rintro e w0 ⟨rfl,rfl⟩;clear mLn;go_wp2_with fail
 go_loopw [3] (fun i wr=>∃ c:LI,((i= .int .i64 (-1)/\HeapLow c n 0)\/∃ j:Nat,i= .int .i64 j/\2*j+1<n/\HeapLow c n (j+1))/\Hp wr hb c/\c.length=n/\(∀ x,x∈c↔x∈l)/\HF hb w0 wr) (fun i _=>(intOf i+1).toNat)
 case atStart =>
  refine ⟨l,?_,HH.out,HN.out,fun _=>Iff.rfl,HF.refl _ _⟩
  rcases HZ.out with ⟨rfl,h0⟩|⟨k,rfl,h1⟩
  ·refine .inl ⟨congrArg _ (by omega),?_⟩;have:=HLo.out;rw [h0] at this;exact this
  ·refine .inr ⟨k,congrArg _ (by omega),by omega,?_⟩;have:=HLo.out;rw [h1] at this;exact this
 case round =>
  clear i1 i2;obtain ⟨c,hi,hH,hc,hm,hF⟩:=hrel
  rcases hi with ⟨rfl,hlow⟩|⟨j,rfl,hj,hlow⟩
  ·go_wp2_with fail
   go_end0
   exact ⟨rfl,c,hH,by rw [hc];exact HN.out.symm,hm,by rw [hc];exact hlow,hF⟩
  ·have g1:(0:Int)<=(j:Int):=by omega
   rcases hH.open with ⟨_,rfl⟩|⟨g,cap',hM⟩
   ·simp at hc;omega
   have HM:=(show Hid (HpM wr hb g cap' c) from hM);have HLw:=(show Hid (HeapLow c n (j+1)) from hlow);have HC:=(show Hid (c.length=n/\∀ x,x∈c↔x∈l) from ⟨hc,hm⟩);clear hH hM hlow hc hm;obtain ⟨z',i2,hz⟩:∃ z:Int,IntKind.i64.wrap ((j:Int)-1)=z/\((z = -1/\j=0)\/∃ k:Nat,z=(k:Int)/\j=k+1):=by
    by_cases h0:j=0
    ·exact ⟨_,by rw [h0];rfl, .inl ⟨rfl,h0⟩⟩
    ·exact ⟨((j-1:Nat):Int),by rw [IntKind.wrap_i64];omega, .inr ⟨_,rfl,by omega⟩⟩
   have HZ':=(show Hid ((z' = -1/\j=0)\/∃ k:Nat,z'=(k:Int)/\j=k+1) from hz);clear hz;go_wp2_with fail;refine (hDown_at (i0:=j) (n:=n) HM.out HLw.out (by have:=HC.out.1;omega) (by omega) (by have:=HC.out.1;omega) rfl rfl).mono ?_;rintro e w2 ⟨⟨v2,rfl⟩,c2,hM2,hc2,hm2,hfar,hlow,hx2⟩;have HR:Hid (∃ c:LI,((Value.int .i64 z'= .int .i64 (-1)/\HeapLow c n 0)\/∃ j:Nat,Value.int .i64 z'= .int .i64 j/\2*j+1<n/\HeapLow c n (j+1))/\Hp w2 hb c/\c.length=n/\(∀ x,x∈c↔x∈l)/\HF hb w0 w2):=by
    refine ⟨c2,?_,hM2.hp,hc2.trans HC.out.1,fun x=>(hm2 x).trans (HC.out.2 x),hF.trans (HM.out.frame hx2)⟩
    rcases HZ'.out with ⟨rfl,rfl⟩|⟨k,rfl,rfl⟩
    ·exact .inl ⟨rfl,hlow⟩
    ·exact .inr ⟨k,rfl,by omega,hlow⟩
   clear hM2 hc2 hm2 hfar hlow hx2;go_wp2_with fail;go_roundw
   case rel=>exact HR.out
   case measure=>simp only [intOf];rcases HZ'.out with ⟨rfl,rfl⟩|⟨k,rfl,rfl⟩<;>omega
def jnT (s t:Int×Int):Int×Int:=(max s.1 t.1,max s.2 t.2)
structure PtI (l:List Rw) (n:Nat) (next:LI):Prop where
 le:n<=(jT l).length
 inn:∀ x∈next,x∈jT l
 rows:∀ r∈l,r.1.2∈(jT l).take n\/r.1.2∈next
 joins:∀ p∈(jT l).take n,∀ q∈(jT l).take n,jnT p q∈(jT l).take n\/jnT p q∈next
 late:∀ p∈(jT l).take n,∀ x∈next,leT p x
theorem jt_self {l:List Rw} (h:rokB l=true) {r:Rw} (hr:r∈l):r.1.2∈jT l:=by
 rw [jtimes_mem,inJ_iff];refine ⟨?_,r,hr,r,hr,by omega,by omega⟩;have:=rok_at h hr;exact rw_time this
theorem jt_join {l:List Rw} {s t:Int×Int} (hs:s∈jT l) (ht:t∈jT l):jnT s t∈jT l:=by
 rw [jtimes_mem,inJ_iff] at *;obtain ⟨h1,p,hp,q,hq,e1,e2⟩:=hs;obtain ⟨k1,p',hp',q',hq',f1,f2⟩:=ht;rw [okB_iff] at *;refine ⟨by simp only [jnT];omega,?_⟩;have:∃ a∈l,a.1.2.1=max s.1 t.1/\a.1.2.2<=max s.2 t.2:=by
  have:max p.1.2.1 q.1.2.1=max s.1 t.1\/max p'.1.2.1 q'.1.2.1=max s.1 t.1:=by omega
  rcases this with e|e
  ·have:p.1.2.1=max s.1 t.1\/q.1.2.1=max s.1 t.1:=by omega
   rcases this with e'|e'
   ·exact ⟨p,hp,e',by omega⟩
   ·exact ⟨q,hq,e',by omega⟩
  ·have:p'.1.2.1=max s.1 t.1\/q'.1.2.1=max s.1 t.1:=by omega
   rcases this with e'|e'
   ·exact ⟨p',hp',e',by omega⟩
   ·exact ⟨q',hq',e',by omega⟩
 obtain ⟨a,ha,a1,a2⟩:=this;have:∃ b∈l,b.1.2.2=max s.2 t.2/\b.1.2.1<=max s.1 t.1:=by
  have:max p.1.2.2 q.1.2.2=max s.2 t.2\/max p'.1.2.2 q'.1.2.2=max s.2 t.2:=by omega
  rcases this with e|e
  ·have:p.1.2.2=max s.2 t.2\/q.1.2.2=max s.2 t.2:=by omega
   rcases this with e'|e'
   ·exact ⟨p,hp,e',by omega⟩
   ·exact ⟨q,hq,e',by omega⟩
  ·have:p'.1.2.2=max s.2 t.2\/q'.1.2.2=max s.2 t.2:=by omega
   rcases this with e'|e'
   ·exact ⟨p',hp',e',by omega⟩
   ·exact ⟨q',hq',e',by omega⟩
 obtain ⟨b,hb,b1,b2⟩:=this;exact ⟨a,ha,b,hb,by simp only [jnT];omega,by simp only [jnT];omega⟩
theorem PtI.start {l:List Rw} {next:LI} (h:rokB l=true) (hm:∀ x,x∈next↔x∈l.map fun r=>r.1.2):PtI l 0 next where
 le:=Nat.zero_le _
 inn x hx:=by
  obtain ⟨r,hr,rfl⟩:=List.mem_map.1 ((hm x).1 hx);exact jt_self h hr
 rows r hr:= .inr ((hm _).2 (List.mem_map_of_mem hr))
 joins p hp:=by simp at hp
 late p hp:=by simp at hp
theorem leT_join_l (s t:Int×Int):leT s (jnT s t):=by rw [leT_iff];simp only [jnT];omega
theorem leT_join_r (s t:Int×Int):leT t (jnT s t):=by rw [leT_iff];simp only [jnT];omega
theorem PtI.ahead {l:List Rw} {n:Nat} {next:LI} (h:PtI l n next) {t:Int×Int} (hmin:∀ x∈next,leT t x) {y:Int×Int} (hy:y∈jT l) (hlt:ltT y t=true):y∈(jT l).take n:=by
 rw [jtimes_mem,inJ_iff] at hy;obtain ⟨_,p,hp,q,hq,e1,e2⟩:=hy;have hno:∀ x∈next,¬ leT x y:=fun x hx e=>by
  have:=leT_trans (hmin x hx) e;unfold leT at this;rw [this] at hlt;cases hlt
 have hj:jnT p.1.2 q.1.2=y:=Prod.ext e1 e2;have h1:p.1.2∈(jT l).take n:=(h.rows p hp).resolve_right fun hx=>hno _ hx (by rw [<- hj];exact leT_join_l _ _);have h2:q.1.2∈(jT l).take n:=(h.rows q hq).resolve_right fun hx=>hno _ hx (by rw [<- hj];exact leT_join_r _ _);have h3:=h.joins _ h1 _ h2;rw [hj] at h3;exact h3.resolve_right fun hx=>hno _ hx (leT_refl _)
theorem srt_lt {l:LI} (h:l.Pairwise fun p q=>ltT p q=true) {i j:Nat} (hij:i<j) (hj:j<l.length):ltT (gt l i) (gt l j)=true:=by
 rw [List.pairwise_iff_getElem] at h;have:=h i j (by omega) hj hij
 simpa [gt,show i<l.length from by omega,hj] using this
theorem ltT_no {t:Int×Int}:ltT t t=false:=by rw [Bool.eq_false_iff];intro e;rw [ltT_iffP] at e;omega
theorem take_mem_gt {l:LI} {n:Nat} {x:Int×Int} (hn:n<=l.length):x∈l.take n↔∃ j,j<n/\gt l j=x:=by
 constructor
 ·intro h;obtain ⟨k,hk,e⟩:=mem_gt h;rw [List.length_take] at hk;exact ⟨k,by omega,by rw [<- gt_take (n:=n) (by omega)];exact e⟩
 ·rintro ⟨j,hj,rfl⟩;rw [<- gt_take hj];exact gt_mem (by rw [List.length_take];omega)
theorem PtI.next {l:List Rw} {n:Nat} {next:LI} (h:PtI l n next) {t:Int×Int} (ht:t∈next) (hmin:∀ x∈next,leT t x) (hnew:t ∉ (jT l).take n):n<(jT l).length/\gt (jT l) n=t:=by
 obtain ⟨j,hj,e⟩:=mem_gt (h.inn t ht);have hs:=jtimes_srt l;have hnj:n<=j:=by
  by_cases hq:n<=j
  ·exact hq
  ·exact absurd ((take_mem_gt h.le).2 ⟨j,by omega,e⟩) hnew
 by_cases hq:n=j
 ·exact ⟨by omega,by rw [hq];exact e⟩
 ·exfalso
  have hlt:=srt_lt hs (i:=n) (j:=j) (by omega) hj;rw [e] at hlt;have:=h.ahead hmin (gt_mem (by omega)) hlt;obtain ⟨k,hk,e2⟩:=(take_mem_gt h.le).1 this;have h3:=srt_lt hs hk (by omega);rw [e2,ltT_no] at h3;cases h3
theorem PtI.last {l:List Rw} {n:Nat} {next:LI} (h:PtI l n next) {t:Int×Int} (ht:t∈next) (hold:t∈(jT l).take n):0<n/\gt (jT l) (n-1)=t:=by
 obtain ⟨k,hk,e⟩:=(take_mem_gt h.le).1 hold;refine ⟨by omega,?_⟩;have h1:=h.late (gt (jT l) (n-1)) ((take_mem_gt h.le).2 ⟨n-1,by omega,rfl⟩) t ht
 by_cases hq:k=n-1
 ·rw [<- hq];exact e
 ·have h2:=srt_lt (jtimes_srt l) (i:=k) (j:=n-1) (by omega) (by have:=h.le;omega);rw [e] at h2;unfold leT at h1;rw [h1] at h2;cases h2
theorem PtI.skip {l:List Rw} {n:Nat} {next c:LI} (h:PtI l n next) {t:Int×Int} (hold:t∈(jT l).take n) (hm:∀ x,x∈next↔x=t\/x∈c):PtI l n c where
 le:=h.le
 inn x hx:=h.inn x ((hm x).2 (.inr hx))
 rows r hr:=by
  rcases h.rows r hr with h1|h1
  ·exact .inl h1
  ·rcases (hm _).1 h1 with e|e
   ·exact .inl (by rw [e];exact hold)
   ·exact .inr e
 joins p hp q hq:=by
  rcases h.joins p hp q hq with h1|h1
  ·exact .inl h1
  ·rcases (hm _).1 h1 with e|e
   ·exact .inl (by rw [e];exact hold)
   ·exact .inr e
 late p hp x hx:=h.late p hp x ((hm x).2 (.inr hx))
theorem jnT_self (t:Int×Int):jnT t t=t:=by unfold jnT;exact Prod.ext (by simp only;omega) (by simp only;omega)
theorem jnT_comm (s t:Int×Int):jnT s t=jnT t s:=by unfold jnT;exact Prod.ext (by simp only;omega) (by simp only;omega)
theorem PtI.told {l:List Rw} {n:Nat} {next c c':LI} (h:PtI l n next) {t:Int×Int} (ht:t∈next) (hmin:∀ x∈next,leT t x) (hn:n<(jT l).length) (he:gt (jT l) n=t) (hm:∀ x,x∈next↔x=t\/x∈c)
  (hm':∀ x,x∈c'↔x∈c\/∃ j,j<n/\x=jnT (gt (jT l) j) t):PtI l (n+1) c':=by
 have hk:∀ x,x∈(jT l).take (n+1)↔x∈(jT l).take n\/x=t:=fun x=>by
  rw [take_mem_gt (by omega),take_mem_gt h.le];constructor
  ·rintro ⟨j,hj,e⟩
   by_cases hq:j=n
   ·right;rw [<- e,hq];exact he
   ·exact .inl ⟨j,by omega,e⟩
  ·rintro (⟨j,hj,e⟩|e)
   ·exact ⟨j,by omega,e⟩
   ·exact ⟨n,by omega,by rw [e];exact he⟩
 have hin:∀ p∈(jT l).take n,jnT p t∈c':=fun p hp=>by
  obtain ⟨j,hj,e⟩:=(take_mem_gt h.le).1 hp;exact (hm' _).2 (.inr ⟨j,hj,by rw [e]⟩)
 have hnx:∀ x∈next,x=t\/x∈c':=fun x hx=>by
  rcases (hm x).1 hx with e|e
  ·exact .inl e
  ·exact .inr ((hm' x).2 (.inl e))
 refine ⟨by omega,fun x hx=>?_,fun r hr=>?_,fun p hp q hq=>?_,fun p hp x hx=>?_⟩
 ·rcases (hm' x).1 hx with e|⟨j,hj,e⟩
  ·exact h.inn x ((hm x).2 (.inr e))
  ·rw [e];exact jt_join (gt_mem (by omega)) (h.inn t ht)
 ·rw [hk]
  rcases h.rows r hr with e|e
  ·exact .inl (.inl e)
  ·rcases hnx _ e with e|e
   ·exact .inl (.inr e)
   ·exact .inr e
 ·rw [hk] at hp hq ⊢
  rcases hp with hp|rfl
  ·rcases hq with hq|rfl
   ·rcases h.joins p hp q hq with e|e
    ·exact .inl (.inl e)
    ·rcases hnx _ e with e|e
     ·exact .inl (.inr e)
     ·exact .inr e
   ·exact .inr (hin p hp)
  ·rcases hq with hq|rfl
   ·exact .inr (by rw [jnT_comm];exact hin q hq)
   ·exact .inl (.inr (jnT_self _))
 ·have htx:leT t x:=by
   rcases (hm' x).1 hx with e|⟨j,hj,e⟩
   ·exact hmin x ((hm x).2 (.inr e))
   ·rw [e];exact leT_join_r _ _
  rw [hk] at hp
  rcases hp with hp|rfl
  ·exact leT_trans (h.late p hp t ht) htx
  ·exact htx
theorem PtI.stop {l:List Rw} {n:Nat} (h:PtI l n []):n=(jT l).length:=by
 by_cases hq:n=(jT l).length
 ·exact hq
 ·exfalso
  have hn:n<(jT l).length:=by have:=h.le;omega
  have hy:=gt_mem hn;rw [jtimes_mem,inJ_iff] at hy;obtain ⟨_,p,hp,q,hq',e1,e2⟩:=hy;have hj:jnT p.1.2 q.1.2=gt (jT l) n:=Prod.ext e1 e2;have h1:=(h.rows p hp).resolve_right (by simp);have h2:=(h.rows q hq').resolve_right (by simp);have h3:=(h.joins _ h1 _ h2).resolve_right (by simp);rw [hj] at h3;obtain ⟨k,hk,e⟩:=(take_mem_gt h.le).1 h3;have h4:=srt_lt (jtimes_srt l) hk hn;rw [e,ltT_no] at h4;cases h4
theorem jnT_prog {l:List Rw} {s t:Int×Int} (hs:s∈jT l) (ht:t∈jT l):(jnA s.1 s.2 t.1 t.2,jnB s.1 s.2 t.1 t.2)=jnT s t:=by
 rw [jtimes_mem] at hs ht;unfold jnA jnB jnT;rw [hs.1,ht.1];rfl
open Go.Shelf
structure ItS (B m:Nat) (A A':World):Prop where
 os:A'.os=A.os
 tape:A'.tape=A.tape
 output:A'.output=A.output
 size:A.heap.size<=A'.heap.size
 low:∀ k,k<B->A'.heap[k]?=A.heap[k]?
 arr:∀ q,arrOf A m=some q->A'.heap[q]?=A.heap[q]?
theorem ItS.below {B m:Nat} {A A':World} (h:Below A.heap.size A A') (hB:B<=A.heap.size) (ha:∀ q,arrOf A m=some q->q<A.heap.size):ItS B m A A' :=
 ⟨h.os,h.tape,h.output,h.size,fun k hk=>h.block k (by omega),fun q e=>h.block q (ha q e)⟩
structure Dj (B m hb:Nat) (ap:Option Nat) (w:World):Prop where
 mB:m<B
 hB:B<=hb
 wB:B<=w.heap.size
 hw:hb<w.heap.size
 ah:∀ q,arrOf w hb=some q->B<=q/\q<w.heap.size/\q≠hb/\ap≠some q/\arrOf w m≠some q
 pp:∀ q,ap=some q->B<=q/\q<w.heap.size/\q≠hb/\arrOf w m≠some q
 am:∀ q,arrOf w m=some q->q<w.heap.size/\q≠hb
theorem Dj.below {B m hb:Nat} {ap:Option Nat} {w w1:World} (h:Dj B m hb ap w) (hb1:Below w.heap.size w w1):Dj B m hb ap w1:=by
 have e1:arrOf w1 hb=arrOf w hb:=aB (hb1.block hb h.hw);have e2:arrOf w1 m=arrOf w m:=aB (hb1.block m (by have:=h.mB;have:=h.wB;omega));have hs:=hb1.size;refine ⟨h.mB,h.hB,by have:=h.wB;omega,by have:=h.hw;omega,fun q e=>?_,fun q e=>?_,fun q e=>?_⟩
 ·rw [e1] at e;rw [e2];have:=h.ah q e;exact ⟨this.1,by omega,this.2.2⟩
 ·rw [e2];have:=h.pp q e;exact ⟨this.1,by omega,this.2.2⟩
 ·rw [e2] at e;have:=h.am q e;exact ⟨by omega,this.2⟩
theorem Dj.itBelow {B m hb:Nat} {ap:Option Nat} {w w1:World} (h:Dj B m hb ap w) (hb1:Below w.heap.size w w1):ItS B m w w1:=ItS.below hb1 h.wB (fun q e=>(h.am q e).1)
theorem Dj.mHF {B m hb:Nat} {ap:Option Nat} {w w1:World} (h:Dj B m hb ap w) (hf:HF hb w w1):arrOf w1 m=arrOf w m:=by
 have:=h.mB;have:=h.hB;have:=h.wB;exact aB (hf.keep m (by omega) (by omega) (fun e=>by have:=h.ah m e;omega))
theorem Dj.hf {B m hb:Nat} {ap:Option Nat} {w w1:World} (h:Dj B m hb ap w) (hf:HF hb w w1):Dj B m hb ap w1:=by
 have e2:=h.mHF hf;have hs:=hf.size;refine ⟨h.mB,h.hB,by have:=h.wB;omega,by have:=h.hw;omega,fun q e=>?_,fun q e=>?_,fun q e=>?_⟩
 ·rw [e2]
  rcases hf.arr with e1|⟨q',e1,h1,h2⟩
  ·rw [e1] at e;have:=h.ah q e;exact ⟨this.1,by omega,this.2.2⟩
  ·rw [e1] at e;cases e;have:=h.hw;have:=h.wB;exact ⟨by omega,h2,by omega,fun e=>by have:=(h.pp q e).2.1;omega,fun e=>by have:=(h.am q e).1;omega⟩
 ·rw [e2];have:=h.pp q e;exact ⟨this.1,by omega,this.2.2⟩
 ·rw [e2] at e;have:=h.am q e;exact ⟨by omega,this.2⟩
theorem Dj.itHF {B m hb:Nat} {ap:Option Nat} {w w1:World} (h:Dj B m hb ap w) (hf:HF hb w w1):ItS B m w w1:=by
 have:=h.hB;have:=h.wB;exact ⟨hf.os,hf.tape,hf.output,hf.size,fun k hk=>hf.keep k (by omega) (by omega) (fun e=>by have:=h.ah k e;omega),fun q e=>hf.keep q (h.am q e).1 (h.am q e).2 (fun e'=>(h.ah q e').2.2.2.2 e)⟩
theorem Dj.ownHF {B m hb:Nat} {v:Value} {l:LI} {w w1:World} (h:Dj B m hb v.ownBlock w) (hf:HF hb w w1) (ho:Own w B v l):Own w1 B v l :=
 oAz ho fun q e=>hf.keep q (h.pp q e).2.1 (h.pp q e).2.2.1 (fun e'=>(h.ah q e').2.2.2.1 e)
theorem Dj.kpa {B m hb:Nat} {ap:Option Nat} {w w1:World} {v:Value} {t:TypeId} (h:Dj B m hb ap w) (hk:KpA m w w1) (hbk:Bk w hb #[v] t):Bk w1 hb #[v] t/\Dj B m hb ap w1:=by
 have:=h.hB;have:=h.mB;have:=h.wB;have hb1:=hk.bk hbk (by omega) (fun e=>(h.am hb e).2 rfl);have e1:arrOf w1 hb=arrOf w hb:=by rw [arrOf_bk hbk,arrOf_bk hb1]
 have hs:=hk.size;refine ⟨hb1,h.mB,h.hB,by omega,by have:=h.hw;omega,fun q e=>?_,fun q e=>?_,fun q e=>?_⟩
 ·rw [e1] at e;have h1:=h.ah q e;refine ⟨h1.1,by omega,h1.2.2.1,h1.2.2.2.1,fun e'=>?_⟩
  rcases hk.arr with e2|⟨q',e2,h2,h3⟩
  ·rw [e2] at e';exact h1.2.2.2.2 e'
  ·rw [e2] at e';cases e';omega
 ·have h1:=h.pp q e;refine ⟨h1.1,by omega,h1.2.2.1,fun e'=>?_⟩
  rcases hk.arr with e2|⟨q',e2,h2,h3⟩
  ·rw [e2] at e';exact h1.2.2.2 e'
  ·rw [e2] at e';cases e';omega
 ·rcases hk.arr with e2|⟨q',e2,h2,h3⟩
  ·rw [e2] at e;have:=h.am q e;exact ⟨by omega,this.2⟩
  ·rw [e2] at e;cases e;have:=h.hw;exact ⟨h3,by omega⟩
theorem own_cells {w:World} {B:Nat} {v:Value} {l:LI} (h:Own w B v l) {q:Nat} (e:v.ownBlock=some q):∃ c:Array Value,Bk w q c 32:=by
 rcases own_open h with ⟨rfl,_⟩|⟨g,cap,c,rfl,_,hb,_⟩
 ·cases e
 ·have:g=q:=by simpa [Value.ownBlock] using e
  subst this;exact ⟨c,hb⟩
theorem Dj.ownKpA {B m hb:Nat} {v:Value} {l:LI} {w w1:World} (h:Dj B m hb v.ownBlock w) (hk:KpA m w w1) (ho:Own w B v l):Own w1 B v l :=
 oAz ho fun q e=>by
  obtain ⟨c,hb⟩:=own_cells ho e;have h1:=h.pp q e;have:=h.mB;exact (hk.bk hb (by omega) h1.2.2.2).trans hb.symm
theorem Dj.hpKpA {B m hb:Nat} {ap:Option Nat} {l:LI} {w w1:World} (h:Dj B m hb ap w) (hk:KpA m w w1) (hp:Hp w hb l):Hp w1 hb l/\Dj B m hb ap w1:=by
 obtain ⟨v,h1,h2,h3⟩:=hp;obtain ⟨k1,k2⟩:=h.kpa hk h1;refine ⟨⟨v,k1,oAz h2 fun q e=>?_,h3⟩,k2⟩;obtain ⟨c,hb'⟩:=own_cells h2 e;have hq:=h.ah q (by rw [arrOf_bk h1];exact e);have:=h.mB;exact (hk.bk hb' (by omega) hq.2.2.2.2).trans hb'.symm
theorem Dj.app {B m hb:Nat} {v u:Value} {w w1:World} (h:Dj B m hb v.ownBlock w) (hg:w.grownBy w1 v.ownBlock) (hu:u.ownBlock=v.ownBlock\/(u.ownBlock=some w.heap.size/\w.heap.size<w1.heap.size)):ItS B m w w1/\Dj B m hb u.ownBlock w1/\w1.heap[hb]?=w.heap[hb]?/\(∀ q,arrOf w hb=some q->w1.heap[q]?=w.heap[q]?):=by
 have:=h.hB;have:=h.mB;have:=h.wB;have:=h.hw;have hs:=hg.size;have k1:w1.heap[hb]?=w.heap[hb]?:=hg.block hb h.hw (fun e=>(h.pp hb e.symm).2.2.1 rfl);have k2:w1.heap[m]?=w.heap[m]?:=hg.block m (by omega) (fun e=>by have:=(h.pp m e.symm).1;omega);have e1:=aB k1;have e2:=aB k2;have k3:∀ q,arrOf w hb=some q->w1.heap[q]?=w.heap[q]?:=fun q e=>hg.block q (h.ah q e).2.1 (fun e'=>(h.ah q e).2.2.2.1 e'.symm);refine ⟨⟨hg.os,hg.tape,hg.output,hg.size,fun k hk=>hg.block k (by omega) (fun e=>by have:=(h.pp k e.symm).1;omega),fun q e=>hg.block q (h.am q e).1 (fun e'=>(h.pp q e'.symm).2.2.2 e)⟩,⟨h.mB,h.hB,by omega,by omega,fun q e=>?_,fun q e=>?_,fun q e=>?_⟩,k1,k3⟩
 ·rw [e1] at e;rw [e2];have h1:=h.ah q e;refine ⟨h1.1,by omega,h1.2.2.1,fun e'=>?_,h1.2.2.2.2⟩
  rcases hu with hu|⟨hu,_⟩
  ·rw [hu] at e';exact h1.2.2.2.1 e'
  ·rw [hu] at e';cases e';omega
 ·rw [e2]
  rcases hu with hu|⟨hu,hlt⟩
  ·rw [hu] at e;have:=h.pp q e;exact ⟨this.1,by omega,this.2.2⟩
  ·rw [hu] at e;cases e;exact ⟨by omega,hlt,by omega,fun e=>by have:=(h.am _ e).1;omega⟩
 ·rw [e2] at e;have:=h.am q e;exact ⟨by omega,this.2⟩
theorem Hp.app {hb:Nat} {l:LI} {w w1:World} (h:Hp w hb l) (k1:w1.heap[hb]?=w.heap[hb]?) (k2:∀ q,arrOf w hb=some q->w1.heap[q]?=w.heap[q]?):Hp w1 hb l:=by
 obtain ⟨v,h1,h2,h3⟩:=h;refine ⟨v,?_,oAz h2 fun q e=>k2 q (by rw [arrOf_bk h1];exact e),h3⟩;unfold Bk;rw [k1];exact h1
def SeqIt {α:Type} (m:Nat) (F:Fence) (n:Nat) (P:Program) (g:Nat) (lb:Array Value) (encs:α->Array Value) (S:List α->Prop) (Pf:List α->α->Prop) (N:Nat) (w:World):Prop :=
 ∀ (l:Nat) (J:List α->World->Prop) (W:World),Below w.heap.size w W->(∀ s A A',J s A->ItS W.heap.size m A A'->J s A') ->
  (∀ pre x W1,J pre W1->pre.length<N->Pf pre x->YieldAt F (n-1) P l (encs x) W1 fun e W'=>e= .returned (.bool true)/\J (pre++[x]) W'/\KpA m W1 W') ->
  J [] W ->
  CallsIn F n P g (#[.func (.yield l) #[] #[]]++lb) W fun e W'=>(∃ v,e= .returned v)/\∃ xs,S xs/\J xs W'
section
variable {F:Fence} {n:Nat} {P:Program}
def LpAt (B:Nat) (r:Loop) (W:World):Prop:=W.heap[B]?=some (.deferred (some []))/\W.heap[B+1]?=some (.loop r)
theorem LpAt.lt {B:Nat} {r:Loop} {W:World} (h:LpAt B r W):B+1<W.heap.size:=(Array.getElem?_eq_some_iff.1 h.2).1
theorem LpAt.new (w:World) (r:Loop):LpAt w.heap.size r ((w.alloc (.deferred (some []))).alloc (.loop r)):=by
 have e:=World.alloc_heap_new (w.alloc (.deferred (some []))) (.loop r);rw [World.size_alloc] at e;exact ⟨(Below.heap_alloc _ _ _ (by simp)).trans (World.alloc_heap_new w _),e⟩
theorem LpAt.it {B m:Nat} {r:Loop} {W W':World} (h:LpAt B r W) (hi:ItS (B+1+1) m W W'):LpAt B r W':=⟨(hi.low _ (by omega)).trans h.1,(hi.low _ (by omega)).trans h.2⟩
theorem LpAt.kept {B:Nat} {r:Loop} {W W':World} (h:LpAt B r W) (hk:KeepsFrom B W W'):LpAt B r W':=⟨hk.same _ _ (Nat.le_refl _) h.1 rfl,hk.same _ _ (by omega) h.2 rfl⟩
theorem LpAt.put {B:Nat} {r:Loop} {W:World} (h:LpAt B r W) (r':Loop):LpAt B r' (W.putObj (B+1) (.loop r')) :=
 ⟨(World.putObj_heap_other (by omega)).trans h.1,World.putObj_heap_same h.lt⟩
theorem LpAt.kp {B m:Nat} {r:Loop} {W:World} (h:LpAt B r W) (r':Loop) (hm:m<B):KpA m W (W.putObj (B+1) (.loop r')):=KpA.put W _ _ _ (by omega) h.2 rfl
theorem LpAt.own {β:Type} {B:Nat} {r:Loop} {W:World} {I:β->World->Prop} {s:β} (h:LpAt B r W) (r':Loop) (hI:OwnFrom B I) (hs:I s W):I s (W.putObj (B+1) (.loop r')):=hI.putObj _ hs (by omega) h.2 rfl
theorem wpIn_rangeFunc_it {α:Type} {m:Nat} {g:Operand} {ps:Array Tmp} {assign body:Code} {Q:Exit->Act->World->Prop} {a:Act} {w:World}
  (hro:F.round=none) (h1:1<=n) {gf:Nat} {lb:Array Value} (hg:a.eval g= .func (.func gf) #[] lb) (hFg:F.fn gf) (eg:∀ args w,(callFunc gf args).run P w= .ok (.enter gf args) w)
  {encs:α->Array Value} {S:List α->Prop} {Pf:List α->α->Prop} {N:Nat} {w0:World} (hseq:SeqIt m F (n-1) P gf lb encs S Pf N w0) (hmw:m<w.heap.size)
  (hb0:Below w0.heap.size w0 w) (hps:∀ x,(encs x).size=ps.size)
  (I:List α->World->Prop) (hI:OwnFrom w.heap.size I) (hI2:∀ s A A',I s A->ItS w.heap.size m A A'->I s A') (h0:I [] w) (Ax:α->Act->World->Prop) (hAx:∀ x a',OwnFrom w.heap.size (fun (_:Unit) W=>Ax x a' W))
  (hassign:∀ (l:Nat) (pre:List α) (x:α) (W:World) (K:Act->World->Prop),I pre W->(∀ a' W',KeepsFrom w.heap.size W W'->KpA m W W'->I pre W'->Ax x a' W'->K a' W') ->
   assign.wpIn (F.inRound l) (n-1-1) P (Exit.then K (fun _ _ _=>False)) { tmps:=(ps.zip (encs x)).foldl (fun t (p,v)=>t.setIfInBounds p v) a.tmps,defers:=[] } W)
  (hbody:∀ (l:Nat) (pre:List α) (x:α) (a':Act) (W:World),w.heap.size<=l->(∃ r,W.heap[l]?=some (.loop r))->I pre W->Ax x a' W->pre.length<N->Pf pre x->body.wpIn (F.inRound l) (n-1-1) P (ownPostG w.heap.size (KpA m) I (fun _ _ _=>False) (pre++[x]) W) a' W)
  (hdone:∀ (D:Nat) (xs:List α) (W:World),w.heap.size<=D->S xs->I xs W->W.heap[D]?=some (.deferred (some []))->Q .normal { a with defers:={ target:= .collected D,args:=#[] }::a.defers } W) :
  (Code.rangeFunc g ps assign body).wpIn F n P Q a w:=by
 apply wpIn_rangeFunc
 intro fn hfn;rw [hro]
 let r0:Loop:={ state:= .ready,pending:=none,fn,tmps:=a.tmps,params:=ps,assign,body,defers:=w.heap.size }
 have hLp:=LpAt.new w r0;have hin:=hI.alloc (.loop r0) (hI.alloc (.deferred (some [])) h0);have hbw:=hb0.trans ((((Below.refl _ w).alloc (Nat.le_refl _) (.deferred (some []))).alloc (by simp) (.loop r0)).mono hb0.size);have hsz:((w.alloc (.deferred (some []))).alloc (.loop r0)).heap.size=w.heap.size+1+1:=by simp
 refine ⟨w.heap.size+1,_,_,{ target:= .fn (.func gf) lb,args:=#[.func (.yield (w.heap.size+1)) #[] #[]] },(w.alloc (.deferred (some []))).alloc (.loop r0),gf,#[.func (.yield (w.heap.size+1)) #[] #[]]++lb,(w.alloc (.deferred (some []))).alloc (.loop r0),run_enterLoop_outer _ _ _ _ _,?c1,?c2,?c3,fun _=>h1,?c4⟩
 case c1=>simp only [resolve,hg];simp [go_sem];rfl
 case c2=>intro f' hf';simp [Target.leads] at hf';subst hf';exact hFg
 case c3=>simp [invoke,go_sem,eg]
 refine (hseq (w.heap.size+1) (fun pre W=>I pre W/\LpAt w.heap.size r0 W) _ hbw (fun s A A' hs hi=>?_) (fun pre x W hs hlen hpf=>?_) ⟨hin,hLp⟩).mono ?_
 ·rw [hsz] at hi;exact ⟨hI2 s A A' hs.1 ⟨hi.os,hi.tape,hi.output,hi.size,fun k hk=>hi.low k (by omega),hi.arr⟩,hs.2.it hi⟩
 ·refine ⟨fn,_,assign,body,run_yield (P:=P) (args:=encs x) hs.2.2 (hps x),roundIn_of_wpIn hfn (hassign _ pre x W _ hs.1 fun a' W2 k1 k2 hi hx=>?_)⟩;have hL2:=hs.2.kept k1;refine ⟨_,run_beginRound hL2.2 rfl,?_⟩;have hL3:=hL2.put { r0 with state:= .busy };refine wpIn_mono (hbody _ pre x a' _ (by omega) ⟨_,hL3.2⟩ (hL2.own _ hI hi) (hL2.own (s:=()) _ (hAx x a') hx) hlen hpf) fun e a3 W3 hp=>?_
  match e,hp with
  | .normal,hp =>
   have hL4:=hL3.kept hp.1;exact ⟨_,_,run_endRound (P:=P) none hL4.2,rfl,⟨hL4.own _ hI hp.2.2,hL4.put _⟩,k2.trans (((hL2.kp _ hmw).trans hp.2.1).trans (hL4.kp _ hmw))⟩
  | .ret,hp=>exact hp.2.elim
  | .exit _,hp=>exact hp.2.elim
  | .goto _,hp=>exact hp.2.elim
 ·rintro e W2 ⟨⟨v,rfl⟩,xs,hS,hi,hL⟩;exact ⟨none,_,run_endLoop (P:=P) hL.2 (by simp [r0]),hdone _ xs _ (Nat.le_refl _) hS (hL.own _ hI hi) (hL.put _).1⟩
end
end Go.Proofs.YtbdpcngcbnoioaaGreatDoor
