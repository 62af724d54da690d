import Derived.Test.YtbdpcngcbnoioaaDoorXq1
import Derived.Test.YtbdpcngcbnoioaaDoorGd4
import Derived.Laws.OwnMore
set_option maxRecDepth 100000
set_option maxHeartbeats 16000000
namespace Go.Proofs.YtbdpcngcbnoioaaDoor
open Go.RowKit Go.Shelf
attribute [local go_sem ↓] Go.wp_at_zero Go.wp_at_succ
theorem getD_upQ {L:Array Bool} {i j:Nat} (h:L.getD j false=true):(L.setIfInBounds i true).getD j false=true:=by
 simp only [Array.getD_eq_getD_getElem?,Array.getElem?_setIfInBounds] at h ⊢
 by_cases e:i=j
 ·subst e
  by_cases hl:i<L.size
  ·simp [hl]
  ·simp [Array.getElem?_eq_none (show L.size<=i by omega)] at h
 ·rw [if_neg e];exact h
theorem getD_noQ {L:Array Bool} {j:Nat} (h:L.getD j false=true) (h':L.getD j true=false):False:=by
 simp only [Array.getD_eq_getD_getElem?] at h h';cases e:L[j]?<;>simp [e] at h h';rw [h] at h';cases h'
theorem getD_hereQ {L:Array Bool} {i:Nat} {b:Bool} (h:i<L.size):(L.setIfInBounds i true).getD i b=true:=by
 simp [Array.getD_eq_getD_getElem?,h]
theorem implPlanOk_q (ea:Addr) {t:PT} {B:Nat} {s:Value} {w:World} {b:Bool} (hp:pokB t 4=b) (hsm:t.sm) (hs:KdS B w t s) (hg:w.cell? ⟨0,0,none⟩=some (erV ea)) :
  Calls Tryd.prog 17 #[pl t.k t.n s] w fun e w'=>e= .returned (.bool b)/\Below w.heap.size w w':=by
 rw [<- hp];exact implPlanOk_any ea hsm hs hg
structure NewM (w:World) (B:Nat) (t:PT) (sp:Value) (q q':Nat):Prop where
 kd:KdQ (fun g=>B<=g) w t sp
 hq:B<=q
 bq:Bk w q #[nilV,nilV] 31
 hq':B<=q'
 bq':Bk w q' #[.int .i64 0, .int .i64 0] 46
structure NewQ (t:PT) (A N:Nat) (a0:Option Addr) (c0:Nat) (L:Array Bool) (W:World) (t3 t8 t9 t10 t11 t12 t13:Value):Prop where
 s0:L.getD 0 false=true->t8=pl t.k t.n (.slice a0 t.len c0)
 s1:L.getD 1 false=true->∃ ak ck,t9=pl t.k t.n (.slice ak t.len ck)/\KdQ (fun g=>N<=g) W t (.slice ak t.len ck)
 s2:L.getD 2 false=true->∃ q,t10= .slice (some ⟨q,0,none⟩) 2 2/\N<=q/\Bk W q #[nilV,nilV] 31
 s3:L.getD 3 false=true->t11=tv 0 0
 s4:L.getD 4 false=true->∃ q,t12= .slice (some ⟨q,0,none⟩) 1 1/\N<=q/\Bk W q #[.int .i64 0, .int .i64 0] 46
 s5:L.getD 5 false=true->∃ ak ck q q',t13=sv t.k t.n (.slice ak t.len ck) (.slice (some ⟨q,0,none⟩) 2 2) (.slice (some ⟨q',0,none⟩) 1 1) nilV/\t9=pl t.k t.n (.slice ak t.len ck)/\t10= .slice (some ⟨q,0,none⟩) 2 2/\t12= .slice (some ⟨q',0,none⟩) 1 1
 s6:L.getD 6 false=true->∃ ak ck q q',Bk W (A+1) #[.int .i64 t.k, .int .i64 t.n, .slice ak t.len ck, .slice (some ⟨q,0,none⟩) 2 2, .slice (some ⟨q',0,none⟩) 1 1,nilV] 33/\t9=pl t.k t.n (.slice ak t.len ck)/\t10= .slice (some ⟨q,0,none⟩) 2 2/\t12= .slice (some ⟨q',0,none⟩) 1 1
 s7:L.getD 7 false=true->t3= .bool true
 z:L.getD 6 true=false->Bk W (A+1) #[.int .i64 0, .int .i64 0, .slice none 0 0, .slice none 0 0, .slice none 0 0, .slice none 0 0] 33
 c5:L.getD 5 false=true->L.getD 1 false=true/\L.getD 2 false=true/\L.getD 4 false=true
 c6:L.getD 6 false=true->L.getD 5 false=true
variable {t:PT} {A N:Nat} {a0:Option Addr} {c0:Nat} {L:Array Bool} {W W':World} {t3 t8 t9 t10 t11 t12 t13:Value}
theorem NewQ.keep (h:NewQ t A N a0 c0 L W t3 t8 t9 t10 t11 t12 t13) (hb:Below W.heap.size W W'):NewQ t A N a0 c0 L W' t3 t8 t9 t10 t11 t12 t13 where
 s0:=h.s0
 s1:=fun e=>by obtain ⟨ak,ck,h1,h2⟩:=h.s1 e;exact ⟨ak,ck,h1,h2.keep hb⟩
 s2:=fun e=>by obtain ⟨q,h1,h2,h3⟩:=h.s2 e;exact ⟨q,h1,h2,h3.keep hb⟩
 s3:=h.s3
 s4:=fun e=>by obtain ⟨q,h1,h2,h3⟩:=h.s4 e;exact ⟨q,h1,h2,h3.keep hb⟩
 s5:=h.s5
 s6:=fun e=>by obtain ⟨ak,ck,q,q',h1,h2⟩:=h.s6 e;exact ⟨ak,ck,q,q',h1.keep hb,h2⟩
 s7:=h.s7
 z:=fun e=>(h.z e).keep hb
 c5:=h.c5
 c6:=h.c6
theorem NewQ.put0 {u:Value} (h:NewQ t A N a0 c0 L W t3 t8 t9 t10 t11 t12 t13) (hu:u=pl t.k t.n (.slice a0 t.len c0)):NewQ t A N a0 c0 (L.setIfInBounds 0 true) W t3 u t9 t10 t11 t12 t13 where
 s0:=fun _=>hu
 s1:=fun e=>h.s1 (gS e)
 s2:=fun e=>h.s2 (gS e)
 s3:=fun e=>h.s3 (gS e)
 s4:=fun e=>h.s4 (gS e)
 s5:=fun e=>h.s5 (gS e)
 s6:=fun e=>h.s6 (gS e)
 s7:=fun e=>h.s7 (gS e)
 z:=fun e=>h.z (gT e)
 c5:=fun e=>by obtain ⟨x1,x2,x3⟩:=h.c5 (gS e);exact ⟨getD_upQ x1,getD_upQ x2,getD_upQ x3⟩
 c6:=fun e=>getD_upQ (h.c6 (gS e))
theorem NewQ.put1 {u:Value} (hL:L.getD 5 false=true->False) (hL6:L.getD 6 false=true->False) (h:NewQ t A N a0 c0 L W t3 t8 t9 t10 t11 t12 t13) (hu:∃ ak ck,u=pl t.k t.n (.slice ak t.len ck)/\KdQ (fun g=>N<=g) W t (.slice ak t.len ck)):NewQ t A N a0 c0 (L.setIfInBounds 1 true) W t3 t8 u t10 t11 t12 t13 where
 s0:=fun e=>h.s0 (gS e)
 s1:=fun _=>hu
 s2:=fun e=>h.s2 (gS e)
 s3:=fun e=>h.s3 (gS e)
 s4:=fun e=>h.s4 (gS e)
 s5:=fun e=>(hL (gS e)).elim
 s6:=fun e=>(hL6 (gS e)).elim
 s7:=fun e=>h.s7 (gS e)
 z:=fun e=>h.z (gT e)
 c5:=fun e=>by obtain ⟨x1,x2,x3⟩:=h.c5 (gS e);exact ⟨getD_upQ x1,getD_upQ x2,getD_upQ x3⟩
 c6:=fun e=>getD_upQ (h.c6 (gS e))
theorem NewQ.put2 {u:Value} (hL:L.getD 5 false=true->False) (hL6:L.getD 6 false=true->False) (h:NewQ t A N a0 c0 L W t3 t8 t9 t10 t11 t12 t13) (hu:∃ q,u= .slice (some ⟨q,0,none⟩) 2 2/\N<=q/\Bk W q #[nilV,nilV] 31):NewQ t A N a0 c0 (L.setIfInBounds 2 true) W t3 t8 t9 u t11 t12 t13 where
 s0:=fun e=>h.s0 (gS e)
 s1:=fun e=>h.s1 (gS e)
 s2:=fun _=>hu
 s3:=fun e=>h.s3 (gS e)
 s4:=fun e=>h.s4 (gS e)
 s5:=fun e=>(hL (gS e)).elim
 s6:=fun e=>(hL6 (gS e)).elim
 s7:=fun e=>h.s7 (gS e)
 z:=fun e=>h.z (gT e)
 c5:=fun e=>by obtain ⟨x1,x2,x3⟩:=h.c5 (gS e);exact ⟨getD_upQ x1,getD_upQ x2,getD_upQ x3⟩
 c6:=fun e=>getD_upQ (h.c6 (gS e))
theorem NewQ.put3 {u:Value} (h:NewQ t A N a0 c0 L W t3 t8 t9 t10 t11 t12 t13) (hu:u=tv 0 0):NewQ t A N a0 c0 (L.setIfInBounds 3 true) W t3 t8 t9 t10 u t12 t13 where
 s0:=fun e=>h.s0 (gS e)
 s1:=fun e=>h.s1 (gS e)
 s2:=fun e=>h.s2 (gS e)
 s3:=fun _=>hu
 s4:=fun e=>h.s4 (gS e)
 s5:=fun e=>h.s5 (gS e)
 s6:=fun e=>h.s6 (gS e)
 s7:=fun e=>h.s7 (gS e)
 z:=fun e=>h.z (gT e)
 c5:=fun e=>by obtain ⟨x1,x2,x3⟩:=h.c5 (gS e);exact ⟨getD_upQ x1,getD_upQ x2,getD_upQ x3⟩
 c6:=fun e=>getD_upQ (h.c6 (gS e))
theorem NewQ.put4 {u:Value} (hL:L.getD 5 false=true->False) (hL6:L.getD 6 false=true->False) (h:NewQ t A N a0 c0 L W t3 t8 t9 t10 t11 t12 t13) (hu:∃ q,u= .slice (some ⟨q,0,none⟩) 1 1/\N<=q/\Bk W q #[.int .i64 0, .int .i64 0] 46):NewQ t A N a0 c0 (L.setIfInBounds 4 true) W t3 t8 t9 t10 t11 u t13 where
 s0:=fun e=>h.s0 (gS e)
 s1:=fun e=>h.s1 (gS e)
 s2:=fun e=>h.s2 (gS e)
 s3:=fun e=>h.s3 (gS e)
 s4:=fun _=>hu
 s5:=fun e=>(hL (gS e)).elim
 s6:=fun e=>(hL6 (gS e)).elim
 s7:=fun e=>h.s7 (gS e)
 z:=fun e=>h.z (gT e)
 c5:=fun e=>by obtain ⟨x1,x2,x3⟩:=h.c5 (gS e);exact ⟨getD_upQ x1,getD_upQ x2,getD_upQ x3⟩
 c6:=fun e=>getD_upQ (h.c6 (gS e))
theorem NewQ.put5 {u:Value} (hall:L.getD 1 false=true/\L.getD 2 false=true/\L.getD 4 false=true) (h:NewQ t A N a0 c0 L W t3 t8 t9 t10 t11 t12 t13) (hu:∃ ak ck q q',u=sv t.k t.n (.slice ak t.len ck) (.slice (some ⟨q,0,none⟩) 2 2) (.slice (some ⟨q',0,none⟩) 1 1) nilV/\t9=pl t.k t.n (.slice ak t.len ck)/\t10= .slice (some ⟨q,0,none⟩) 2 2/\t12= .slice (some ⟨q',0,none⟩) 1 1):NewQ t A N a0 c0 (L.setIfInBounds 5 true) W t3 t8 t9 t10 t11 t12 u where
 s0:=fun e=>h.s0 (gS e)
 s1:=fun e=>h.s1 (gS e)
 s2:=fun e=>h.s2 (gS e)
 s3:=fun e=>h.s3 (gS e)
 s4:=fun e=>h.s4 (gS e)
 s5:=fun _=>hu
 s6:=fun e=>h.s6 (gS e)
 s7:=fun e=>h.s7 (gS e)
 z:=fun e=>h.z (gT e)
 c5:=fun _=>⟨getD_upQ hall.1,getD_upQ hall.2.1,getD_upQ hall.2.2⟩
 c6:=fun e=>getD_upQ (h.c6 (gS e))
theorem NewQ.put7 {u:Value} (h:NewQ t A N a0 c0 L W t3 t8 t9 t10 t11 t12 t13) (hu:u= .bool true):NewQ t A N a0 c0 (L.setIfInBounds 7 true) W u t8 t9 t10 t11 t12 t13 where
 s0:=fun e=>h.s0 (gS e)
 s1:=fun e=>h.s1 (gS e)
 s2:=fun e=>h.s2 (gS e)
 s3:=fun e=>h.s3 (gS e)
 s4:=fun e=>h.s4 (gS e)
 s5:=fun e=>h.s5 (gS e)
 s6:=fun e=>h.s6 (gS e)
 s7:=fun _=>hu
 z:=fun e=>h.z (gT e)
 c5:=fun e=>by obtain ⟨x1,x2,x3⟩:=h.c5 (gS e);exact ⟨getD_upQ x1,getD_upQ x2,getD_upQ x3⟩
 c6:=fun e=>getD_upQ (h.c6 (gS e))
theorem NewQ.put6 {q q' ck:Nat} {ak:Option Addr} (hLs:L.size=8) (hN:A+1<N) (hl5:L.getD 5 false=true) (h:NewQ t A N a0 c0 L W t3 t8 t9 t10 t11 t12 t13) (hx:∀ x,x≠A+1->W'.heap[x]?=W.heap[x]?) (hu:Bk W' (A+1) #[.int .i64 t.k, .int .i64 t.n, .slice ak t.len ck, .slice (some ⟨q,0,none⟩) 2 2, .slice (some ⟨q',0,none⟩) 1 1,nilV] 33) (e9:t9=pl t.k t.n (.slice ak t.len ck)) (e10:t10= .slice (some ⟨q,0,none⟩) 2 2) (e12:t12= .slice (some ⟨q',0,none⟩) 1 1):NewQ t A N a0 c0 (L.setIfInBounds 6 true) W' t3 t8 t9 t10 t11 t12 t13 where
 s0:=fun e=>h.s0 (gS e)
 s1:=fun e=>by obtain ⟨ak,ck,h1,h2⟩:=h.s1 (gS e);exact ⟨ak,ck,h1,h2.move fun g hg _=>⟨hg,hx g (by omega)⟩⟩
 s2:=fun e=>by obtain ⟨z,h1,h2,h3⟩:=h.s2 (gS e);exact ⟨z,h1,h2,by unfold Bk;rw [hx z (by omega)];exact h3⟩
 s3:=fun e=>h.s3 (gS e)
 s4:=fun e=>by obtain ⟨z,h1,h2,h3⟩:=h.s4 (gS e);exact ⟨z,h1,h2,by unfold Bk;rw [hx z (by omega)];exact h3⟩
 s5:=fun e=>h.s5 (gS e)
 s6:=fun _=>⟨ak,ck,q,q',hu,e9,e10,e12⟩
 s7:=fun e=>h.s7 (gS e)
 z:=fun e2=>absurd e2 (by rw [getD_hereQ (by omega)];decide)
 c5:=fun e=>by obtain ⟨x1,x2,x3⟩:=h.c5 (gS e);exact ⟨getD_upQ x1,getD_upQ x2,getD_upQ x3⟩
 c6:=fun _=>getD_upQ hl5
def NewJ (t:PT) (A N:Nat) (a0:Option Addr) (c0:Nat) (W0:World) (L:Array Bool) (a:Act) (W:World):Prop :=
 L.size=8/\Bx (A+1) W0 W/\∃ z0 t3 z4 z5 z6 z7 t8 t9 t10 t11 t12 t13:Value,
  a={ tmps:=#[z0, .pointer (some ⟨A,0,none⟩), .pointer (some ⟨A+1,0,none⟩),t3,z4,z5,z6,z7,t8,t9,t10,t11,t12,t13],defers:=[] }/\NewQ t A N a0 c0 L W t3 t8 t9 t10 t11 t12 t13
theorem newJ_next {i:Nat} {W0:World} {z0 z4 z5 z6 z7:Value} (hLs:L.size=8) (hx:Bx (A+1) W0 W') (S:NewQ t A N a0 c0 (L.setIfInBounds i true) W' t3 t8 t9 t10 t11 t12 t13) :
  NewJ t A N a0 c0 W0 (L.setIfInBounds i true) { tmps:=#[z0, .pointer (some ⟨A,0,none⟩), .pointer (some ⟨A+1,0,none⟩),t3,z4,z5,z6,z7,t8,t9,t10,t11,t12,t13],defers:=[] } W' :=
 ⟨by simp [hLs],hx,_,_,_,_,_,_,_,_,_,_,_,_,rfl,S⟩
theorem infoV2Q:(Tryd.prog.info? 31).map (fun i=>(i.zero,i.size,i.bytes))=some (some (.slice none 0 0),1,24):=by kernel_rfl
theorem make_twoQ (u:World):(Instr.makeSlice 29 (.int .i64 2) (.int .i64 2)).run Tryd.prog u= .ok (.slice (some ⟨u.heap.size,0,none⟩) 2 2) (u.alloc (.cells #[nilV,nilV] 31)):=by
 obtain ⟨i0,hi,hz0,hz1,hz2⟩:=info_parts infoV2Q;have:=run_make (P:=Tryd.prog) u 29 31 i0 _ Tryd.underlying29 hi hz0 .i64 .i64 2 2 (by omega) (by omega) (by rw [hz2];omega) (by omega);rw [hz1] at this;have e:madeCells (Value.slice none 0 0).cells (Int.toNat 2*1)=#[nilV,nilV]:=by
  show madeCells #[nilV] 2=_
  apply Array.toList_inj.1
  rw [toList_madeCells_one];rfl
 rw [e] at this;exact this
theorem implSessNewQ_yes (ea:Addr) {t:PT} {B:Nat} {s:Value} {w:World} (hp:pokB t 4=true) (hsm:t.sm) (hs:KdS B w t s) (hg:w.cell? ⟨0,0,none⟩=some (erV ea)) :
  Calls Tryd.prog 7 #[pl t.k t.n s] w fun e w'=>∃ (ak:Option Addr) (ck q q':Nat),e= .returned (.tuple #[sv t.k t.n (.slice ak t.len ck) (.slice (some ⟨q,0,none⟩) 2 2) (.slice (some ⟨q',0,none⟩) 1 1) nilV, .bool true])/\NewM w' (w.heap.size+2) t (.slice ak t.len ck) q q'/\Below w.heap.size w w':=by
 obtain ⟨a0,c0,rfl⟩:=hs.sl;have bA:Bk ((w.alloc (.cells #[.int .i64 t.k, .int .i64 t.n, .slice a0 t.len c0] 28)).alloc (.cells #[.int .i64 0, .int .i64 0, .slice none 0 0, .slice none 0 0, .slice none 0 0, .slice none 0 0] 33)) w.heap.size #[.int .i64 t.k, .int .i64 t.n, .slice a0 t.len c0] 28:=(Bk.new _ _ rfl).alloc _;have bR:Bk ((w.alloc (.cells #[.int .i64 t.k, .int .i64 t.n, .slice a0 t.len c0] 28)).alloc (.cells #[.int .i64 0, .int .i64 0, .slice none 0 0, .slice none 0 0, .slice none 0 0, .slice none 0 0] 33)) (w.heap.size+1) #[.int .i64 0, .int .i64 0, .slice none 0 0, .slice none 0 0, .slice none 0 0, .slice none 0 0] 33:=Bk.new _ _ (by simp);have hb0:Below w.heap.size w ((w.alloc (.cells #[.int .i64 t.k, .int .i64 t.n, .slice a0 t.len c0] 28)).alloc (.cells #[.int .i64 0, .int .i64 0, .slice none 0 0, .slice none 0 0, .slice none 0 0, .slice none 0 0] 33)):=bAz (bAz (Below.refl _ _) _) _;have hz0:((w.alloc (.cells #[.int .i64 t.k, .int .i64 t.n, .slice a0 t.len c0] 28)).alloc (.cells #[.int .i64 0, .int .i64 0, .slice none 0 0, .slice none 0 0, .slice none 0 0, .slice none 0 0] 33)).heap.size=w.heap.size+2:=by simp
 obtain ⟨x0,x1,x2⟩:=bA.three';have hk0:=hs.keep hb0;have HSS:Hid (KdS B w t (.slice a0 t.len c0)):=hs;clear hs;have hg0:=cB hb0 hg;go_enter Tryd.func7,Tryd.ntmps7;go_wp2_with fail;generalize ((w.alloc (.cells #[.int .i64 t.k, .int .i64 t.n, .slice a0 t.len c0] 28)).alloc (.cells #[.int .i64 0, .int .i64 0, .slice none 0 0, .slice none 0 0, .slice none 0 0, .slice none 0 0] 33))=W1 at *;refine (implPlanOk_q ea hp hsm hk0 hg0).mono ?_;rintro e W0 ⟨rfl,hb1⟩;have bA1:=bA.keep hb1;have bR1:=bR.keep hb1;have hbw1:=bSz hb0 hb1;have hz1:w.heap.size+2<=W0.heap.size:=by have:=hb1.size;omega
 clear x0 x1 x2 bA bR hb0 hb1 hk0 hg0 hz0;go_wp2_with fail;have HX:Hid (∀ V:World,Bx (w.heap.size+1) W0 V->V.cell? ⟨w.heap.size,0,none⟩=some (.int .i64 t.k)/\V.cell? ⟨w.heap.size,1,none⟩=some (.int .i64 t.n)/\V.cell? ⟨w.heap.size,2,none⟩=some (.slice a0 t.len c0)):=fun V hV=>(bA1.keepx hV (by omega)).three';have HBL:Hid (∀ V:World,Bx (w.heap.size+1) W0 V->Below w.heap.size w V):=fun V hV=>⟨hV.os.trans hbw1.os,hV.tape.trans hbw1.tape,hV.output.trans hbw1.output,Nat.le_trans hbw1.size hV.size,fun z hz=>(hV.block z (by omega) (by omega)).trans (hbw1.block z hz)⟩;have HKD:Hid (∀ V:World,Bx (w.heap.size+1) W0 V->KdS B V t (.slice a0 t.len c0)):=fun V hV=>HSS.out.keep (HBL.out V hV);refine wp_region_inv (by kernel_rfl) (NewJ t w.heap.size (w.heap.size+2) a0 c0 W0) ?hg ?hs ?h0 ?hstep ?hend
 case hg =>
  intro i o ho;have hi:i<8:=(Array.getElem?_eq_some_iff.1 ho).1;obtain rfl|rfl|rfl|rfl|rfl|rfl|rfl|rfl:i=0\/i=1\/i=2\/i=3\/i=4\/i=5\/i=6\/i=7:=by omega
  all_goals cases ho;rfl
 case hs=>intro L a W hI;exact hI.1
 case h0 =>
  refine ⟨by simp,Bx.of_below (Below.refl _ _).drew,_,_,_,_,_,_,_,_,_,_,_,_,rfl,?_⟩;constructor
  case z=>exact fun _=>bR1
  all_goals (intro e;simp at e)
 case hstep =>
  rintro L a W i o ⟨hLs,hx,z0,t3,z4,z5,z6,z7,t8,t9,t10,t11,t12,t13,rfl,S⟩ hi ho;obtain ⟨hun,o',ho',hall⟩:=mem_ready.1 hi;rw [ho] at ho';cases ho';have hi8:i<8:=(Array.getElem?_eq_some_iff.1 ho).1;have hNW:w.heap.size+2<=W.heap.size:=by have:=hx.size;omega
  clear hi;generalize hK:(fun a' w'=>NewJ t w.heap.size (w.heap.size+2) a0 c0 W0 (L.setIfInBounds i true) a' w')=K;obtain rfl|rfl|rfl|rfl|rfl|rfl|rfl|rfl:i=0\/i=1\/i=2\/i=3\/i=4\/i=5\/i=6\/i=7:=by omega
  ·cases ho;obtain ⟨x0,x1,x2⟩:=HX.out _ hx;go_simp;subst hK;exact newJ_next hLs hx (S.put0 rfl)
  ·cases ho;have e0:=S.s0 (hall ⟨0, .data⟩ (by simp) rfl);subst e0;go_simp;refine (planLikeQ_any t (HKD.out _ hx)).mono ?_;rintro e W1 ⟨ak,ck,rfl,kp,hb1⟩;subst hK;exact newJ_next hLs (hx.trans (Bx.of_below hb1)) ((S.keep hb1).put1 (fun e=>getD_noQ (S.c5 e).1 hun) (fun e=>getD_noQ (S.c5 (S.c6 e)).1 hun) ⟨ak,ck,rfl,kp.wk fun g hg=>by omega⟩)
  ·cases ho;have hm:=make_twoQ W;go_simp;subst hK;exact newJ_next hLs (hx.trans (Bx.of_below (bAz (Below.refl _ _) _))) ((S.keep (bAz (Below.refl _ _) _)).put2 (fun e=>getD_noQ (S.c5 e).2.1 hun) (fun e=>getD_noQ (S.c5 (S.c6 e)).2.1 hun) ⟨_,rfl,hNW,Bk.new _ _ rfl⟩)
  ·cases ho;go_simp;subst hK;exact newJ_next hLs hx (S.put3 rfl)
  ·cases ho;have e0:=S.s3 (hall ⟨3, .data⟩ (by simp) rfl);subst e0;go_simp;subst hK;exact newJ_next hLs (hx.trans (Bx.of_below (bAz (Below.refl _ _) _))) ((S.keep (bAz (Below.refl _ _) _)).put4 (fun e=>getD_noQ (S.c5 e).2.2 hun) (fun e=>getD_noQ (S.c5 (S.c6 e)).2.2 hun) ⟨_,rfl,hNW,Bk.new _ _ rfl⟩)
  ·cases ho;have l1:=hall ⟨1, .data⟩ (by simp) rfl;have l2:=hall ⟨2, .data⟩ (by simp) rfl;have l4:=hall ⟨4, .data⟩ (by simp) rfl;obtain ⟨ak,ck,e9,-⟩:=S.s1 l1;obtain ⟨q,e10,-,-⟩:=S.s2 l2;obtain ⟨q',e12,-,-⟩:=S.s4 l4;subst e9 e10 e12;go_simp;subst hK;exact newJ_next hLs hx (S.put5 ⟨l1,l2,l4⟩ ⟨ak,ck,q,q',rfl,rfl,rfl,rfl⟩)
  ·cases ho;have l5:=hall ⟨5, .data⟩ (by simp) rfl;have bq:=S.z hun;obtain ⟨ak,ck,q,q',e13,e9,e10,e12⟩:=S.s5 l5;subst e13 e9 e10 e12;have g0:=bq.free 0;have q1:=bq.set 0 (.int .i64 t.k);have g1:=q1.free 1;have q2:=q1.set 1 (.int .i64 t.n);have g2:=q2.free 2;have q3:=q2.set 2 (.slice ak t.len ck);have g3:=q3.free 3;have q4:=q3.set 3 (.slice (some ⟨q,0,none⟩) 2 2);have g4:=q4.free 4;have q5:=q4.set 4 (.slice (some ⟨q',0,none⟩) 1 1);have g5:=q5.free 5;have q6:Bk ((((((W.setCell ⟨w.heap.size+1,0,none⟩ (.int .i64 t.k)).setCell ⟨w.heap.size+1,1,none⟩ (.int .i64 t.n)).setCell ⟨w.heap.size+1,2,none⟩ (.slice ak t.len ck)).setCell ⟨w.heap.size+1,3,none⟩ (.slice (some ⟨q,0,none⟩) 2 2)).setCell ⟨w.heap.size+1,4,none⟩ (.slice (some ⟨q',0,none⟩) 1 1)).setCell ⟨w.heap.size+1,5,none⟩ (nilV)) (w.heap.size+1) #[.int .i64 t.k, .int .i64 t.n, .slice ak t.len ck, .slice (some ⟨q,0,none⟩) 2 2, .slice (some ⟨q',0,none⟩) 1 1,nilV] 33:=q5.set 5 nilV;obtain ⟨y0,y1,y2,y3,y4,y5⟩:=bq.six;have hset:∀ z,z≠w.heap.size+1->((((((W.setCell ⟨w.heap.size+1,0,none⟩ (.int .i64 t.k)).setCell ⟨w.heap.size+1,1,none⟩ (.int .i64 t.n)).setCell ⟨w.heap.size+1,2,none⟩ (.slice ak t.len ck)).setCell ⟨w.heap.size+1,3,none⟩ (.slice (some ⟨q,0,none⟩) 2 2)).setCell ⟨w.heap.size+1,4,none⟩ (.slice (some ⟨q',0,none⟩) 1 1)).setCell ⟨w.heap.size+1,5,none⟩ (nilV)).heap[z]?=W.heap[z]?:=fun z hz=>(((((Below.heap_setCell _ _ _ _ hz).trans (Below.heap_setCell _ _ _ _ hz)).trans (Below.heap_setCell _ _ _ _ hz)).trans (Below.heap_setCell _ _ _ _ hz)).trans (Below.heap_setCell _ _ _ _ hz)).trans (Below.heap_setCell _ _ _ _ hz);go_simp;subst hK;exact newJ_next hLs (hx.trans ⟨rfl,rfl,rfl,by simp [World.setCell],fun z _ hz=>hset z hz⟩) (S.put6 hLs (by omega) l5 hset q6 rfl rfl rfl)
  ·cases ho;go_simp;subst hK;exact newJ_next hLs hx (S.put7 rfl)
 case hend =>
  rintro L a W ⟨hLs,hx,z0,t3,z4,z5,z6,z7,t8,t9,t10,t11,t12,t13,rfl,S⟩ hr;have hallL:∀ j,j<8->L.getD j false=true:=by
   refine all_listed2 (by simpa using hLs) ?_ hr;intro i o ho;have hi:i<8:=(Array.getElem?_eq_some_iff.1 ho).1;obtain rfl|rfl|rfl|rfl|rfl|rfl|rfl|rfl:i=0\/i=1\/i=2\/i=3\/i=4\/i=5\/i=6\/i=7:=by omega
   all_goals cases ho
   all_goals (first|(simp;done)|(simp [Region.binds];done)|decide)
  obtain ⟨ak,ck,q,q',bN,e9,e10,e12⟩:=S.s6 (hallL 6 (by omega));obtain ⟨ak',ck',e9',kp⟩:=S.s1 (hallL 1 (by omega));obtain ⟨x1,e10',hq1,bq1⟩:=S.s2 (hallL 2 (by omega));obtain ⟨x2,e12',hq2,bq2⟩:=S.s4 (hallL 4 (by omega));have e3:=S.s7 (hallL 7 (by omega));rw [e9] at e9';rw [e10] at e10';rw [e12] at e12';obtain ⟨rfl,rfl⟩:ak=ak'/\ck=ck':=by simp at e9';exact e9'
  obtain rfl:q=x1:=by simp at e10';exact e10'
  obtain rfl:q'=x2:=by simp at e12';exact e12'
  subst e3;have HF:Hid (NewM W (w.heap.size+2) t (.slice ak t.len ck) q q'):=⟨kp,hq1,bq1,hq2,bq2⟩;have HBF:Hid (Below w.heap.size w W):=HBL.out W hx;obtain ⟨r0,r1,r2,r3,r4,r5⟩:=bN.six;clear hallL S hr kp bq1 bq2 bN e9 e10 e12 e9' e10' e12' bA1 bR1 hbw1 hx;go_wp2_with fail;refine bodyPost_ret (v:= .tuple #[sv t.k t.n (.slice ak t.len ck) (.slice (some ⟨q,0,none⟩) 2 2) (.slice (some ⟨q',0,none⟩) 1 1) nilV, .bool true]) (by simp [results,Tryd.results7,go_sem,r0,r1,r2,r3,r4,r5];try rfl) rfl ?_;exact ⟨_,_,_,_,rfl,HF.out,HBF.out⟩
end Go.Proofs.YtbdpcngcbnoioaaDoor
