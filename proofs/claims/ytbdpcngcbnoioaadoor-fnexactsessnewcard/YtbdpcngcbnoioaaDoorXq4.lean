import Derived.Test.YtbdpcngcbnoioaaDoorLx3
import Derived.Test.YtbdpcngcbnoioaaDoorGqa
import Derived.Test.YtbdpcngcbnoioaaDoorFr25
set_option maxRecDepth 100000
set_option maxHeartbeats 8000000
namespace Go.Proofs.YtbdpcngcbnoioaaDoor
open Go.RowKit Go.Shelf
theorem KdQ.typ {w:World}:∀ {t:PT} {p:Nat->Prop} {s:Value},KdQ p w t s->KdQ (fun g=>p g/\∃ cs:Array Value,Bk w g cs 28) w t s
 | .n0 _ _,_,_,h=>h
 | .n1 _ _ _,_,_,⟨g,c,cs,sx,e,hp,hb,h1,h2,h3,h4⟩=>⟨g,c,cs,sx,e,⟨hp,cs,hb⟩,hb,h1,h2,h3,(KdQ.typ h4).wk fun _ h=>⟨⟨h.1.1,h.2⟩,h.1.2⟩⟩
 | .n2 _ _ _ _,_,_,⟨g,c,cs,sx,sy,m,e,hp,hb,h1,h2,h3,h4,h5,h6,h7,h8⟩=>⟨g,c,cs,sx,sy,m,e,⟨hp,cs,hb⟩,hb,h1,h2,h3,h4,h5,h6,(KdQ.typ h7).wk fun _ h=>⟨⟨⟨h.1.1.1,h.2⟩,h.1.1.2⟩,h.1.2⟩,(KdQ.typ h8).wk fun _ h=>⟨⟨⟨h.1.1.1,h.2⟩,h.1.1.2⟩,h.1.2⟩⟩
theorem bk_apart {w:World} {g:Nat} {c d:Array Value} {t u:TypeId} (h:Bk w g c t) (k:Bk w g d u) (hn:t≠u):False:=by
 unfold Bk at h k;rw [h] at k;injection k with k;injection k with _ k;exact hn k
theorem time_blkQ {w:World} {B:Nat} {v:Value} {l:LI} (h:Own w B v l) {q:Nat} (e:v.ownBlock=some q):∃ c:Array Value,Bk w q c 46:=by
 rcases own_open h with ⟨rfl,_⟩|⟨g,cap,c,rfl,_,hb,_⟩
 ·cases e
 ·obtain rfl:g=q:=by simpa [Value.ownBlock] using e
  exact ⟨c,hb⟩
structure GM (w:World) (B:Nat) (t:PT) (sp si sf:Value) (n:Nat) (l:LI):Prop where
 kd:KdQ (fun g=>B<=g) w t sp
 ls:(n=0/\si=nilV)\/(n=2/\∃ q,B<=q/\si= .slice (some ⟨q,0,none⟩) 2 2/\Bk w q #[nilV,nilV] 31)
 ow:Own w B sf l
 cn:cntT t<=30
 ln:l.length<=1
theorem GM.moved {w w':World} {B:Nat} {t:PT} {sp si sf:Value} {n:Nat} {l:LI} (h:GM w B t sp si sf n l) (H:∀ b,B<=b->b<w.heap.size->w'.heap[b]?=w.heap[b]?):GM w' B t sp si sf n l where
 kd:=h.kd.move fun g hg hl=>⟨hg,H g hg hl⟩
 ls:=by
  rcases h.ls with h1|⟨h1,q,h2,h3,h4⟩
  ·exact .inl h1
  ·exact .inr ⟨h1,q,h2,h3,by unfold Bk;rw [H q h2 h4.lt];exact h4⟩
 ow:=oA h.ow fun b e=>H b (oB h.ow b e) (oT h.ow b e)
 cn:=h.cn
 ln:=h.ln
theorem GM.keep {w w':World} {B:Nat} {t:PT} {sp si sf:Value} {n:Nat} {l:LI} (h:GM w B t sp si sf n l) (hb:Below w.heap.size w w'):GM w' B t sp si sf n l:=h.moved fun b _ hl=>hb.block b hl
theorem GM.sl {w:World} {B:Nat} {t:PT} {sp si sf:Value} {n:Nat} {l:LI} (h:GM w B t sp si sf n l):∃ a0 c0 a1 c1 a2 c2,sp= .slice a0 t.len c0/\si= .slice a1 n c1/\sf= .slice a2 l.length c2:=by
 obtain ⟨a0,c0,e0⟩:=h.kd.sl;obtain ⟨a2,c2,e2,-⟩:=Own.ts h.ow (by have:=h.ln;omega)
 rcases h.ls with ⟨h1,h2⟩|⟨h1,q,_,h2,_⟩
 ·subst h1;exact ⟨a0,c0,none,0,a2,c2,e0,h2,e2⟩
 ·subst h1;exact ⟨a0,c0,_,2,a2,c2,e0,h2,e2⟩
theorem markSS_none {w:World} {si:Value} {n:Nat} (h:(n=0/\si=nilV)\/(n=2/\∃ q,si= .slice (some ⟨q,0,none⟩) 2 2/\Bk w q #[nilV,nilV] 31)) (a:Int) :
  Calls Tryd.prog 24 #[si, .int .i64 a] w fun e w'=>e= .returned (.int .i64 a)/\w'=w:=by
 rcases h with ⟨_,rfl⟩|⟨_,q,rfl,hb⟩
 ·go_enter Tryd.func24,Tryd.ntmps24;go_wp2_with fail;refine wp_loop_rounds 1 ?_;rw [rounds_succ];go_wp2_with fail;go_ret;exact ⟨rfl,rfl⟩
 ·obtain ⟨x0,x1,_,_⟩:=hb.two;go_enter Tryd.func24,Tryd.ntmps24;go_wp2_with fail;refine wp_loop_rounds 3 ?_;rw [rounds_succ];go_wp2_with fail;refine (markRN_any a w).mono ?_;rintro e w1 ⟨rfl,hw1⟩;obtain rfl:w=w1:=hw1.symm;go_wp2_with fail;rw [rounds_succ];go_wp2_with fail;refine (markRN_any a w).mono ?_;rintro e w1 ⟨rfl,hw1⟩;obtain rfl:w=w1:=hw1.symm;go_wp2_with fail;rw [rounds_succ];go_wp2_with fail;go_ret;exact ⟨rfl,rfl⟩
theorem heldR_none (a:Int) (w:World) (h0:0<=a) (h1:a<=1000):Calls Tryd.prog 30 #[nilV, .int .i64 a] w fun e w'=>e= .returned (.int .i64 a)/\Below w.heap.size w w':=by
 have e:marksR a 0=[]:=List.eq_nil_of_length_eq_zero (marksR_len a 0);have h:=heldR_any nilV 0 a w (by rw [e];exact OwnR.rs (oN rowC 5 70 w 0) (Nat.zero_le _)) h0 (by omega)
 simpa using h
theorem heldSS_none {w:World} {si:Value} {n:Nat} (h:(n=0/\si=nilV)\/(n=2/\∃ q,si= .slice (some ⟨q,0,none⟩) 2 2/\Bk w q #[nilV,nilV] 31)) (a:Int) (h0:0<=a) (h1:a<=1000) :
  Calls Tryd.prog 28 #[si, .int .i64 a] w fun e w'=>e= .returned (.int .i64 a)/\Below w.heap.size w w':=by
 have ha:¬ (a<0):=by omega
 rcases h with ⟨_,rfl⟩|⟨_,q,rfl,hb⟩
 ·go_enter Tryd.func28,Tryd.ntmps28;go_wp2_with fail;refine wp_loop_rounds 1 ?_;rw [rounds_succ];go_wp2_with fail;go_ret;exact ⟨rfl,Below.refl _ _⟩
 ·obtain ⟨x0,x1,_,_⟩:=hb.two;have HB:=(show Hid (Bk _ _ _ _) from hb);go_enter Tryd.func28,Tryd.ntmps28;go_wp2_with fail;refine wp_loop_rounds 3 ?_;rw [rounds_succ];go_wp2_with fail;refine (heldR_none a w h0 h1).mono ?_;rintro e w1 ⟨rfl,hb1⟩;clear x0 x1;obtain ⟨x0,x1,_,_⟩:=(HB.out.keep hb1).two;go_wp2_with fail;rw [rounds_succ];go_wp2_with fail;refine (heldR_none a w1 h0 h1).mono ?_;rintro e w2 ⟨rfl,hb2⟩;have hbw:=bSz hb1 hb2;clear x0 x1;go_wp2_with fail;rw [rounds_succ];go_wp2_with fail;go_ret;exact ⟨rfl,hbw⟩
theorem markO_q {B:Nat} {v:Value} {l:LI} {w:World} (h:Own w B v l) (hl:l.length<=2097152) (a:Int) (h0:0<=a) (h1:a<=1000000000) :
  Calls Tryd.prog 25 #[v, .int .i64 a] w fun e w'=>e= .returned (.int .i64 (a+2*(l.length:Int)))/\Own w' B v (marksL a l.length)/\(w'=w\/∃ (g:Nat) (c:Array Value),B<=g/\Bk w g c 46/\Bx g w w'):=by
 rcases own_open h with ⟨rfl,rfl⟩|⟨g,cap,c,rfl,hg,hb,hs,hc,hm,_⟩
 ·refine (markN_any a w).mono ?_;rintro e w' ⟨rfl,rfl⟩;exact ⟨by simp,h, .inl rfl⟩
 ·refine (markB_any g l.length cap c a w hb hs hc hl h0 h1).mono ?_;rintro e w' ⟨c',rfl,hb',hs',hf',hx⟩;have:=own_of_fill (B:=B) hb' (F:=marksL a l.length) (by rw [marksL_len];exact hf') hs' (by rw [marksL_len];exact hc) hm hg;rw [marksL_len] at this;exact ⟨rfl,this, .inr ⟨g,c,hg,hb,hx⟩⟩
theorem cntT_numT:∀ (t:PT) (a b:Int) (k:Nat),cntT (numT t a b k)=cntT t
 | .n0 _ _,_,_,_=>rfl
 | .n1 _ _ x,_,_,_=>by simp [numT,cntT,cntT_numT x]
 | .n2 _ _ x y,_,_,_=>by simp [numT,cntT,cntT_numT x,cntT_numT y]
theorem markSess_gm {w:World} {B:Nat} {t:PT} {sp si sf:Value} {n:Nat} {l:LI} (h:GM w B t sp si sf n l) (hB:B<=w.heap.size) :
  Calls Tryd.prog 11 #[sv t.k t.n sp si sf nilV, .int .i64 1] w fun e w'=>e= .returned (.int .i64 (((1+2*cntT t:Nat):Int)+2*(l.length:Int)))/\GM w' B (numT t t.k t.n 1) sp si sf n (marksL ((1+2*cntT t:Nat):Int) l.length)/\Below B w w'/\(∀ (b:Nat) (c:Array Value) (ty:TypeId),Bk w b c ty->ty≠28->ty≠46->Bk w' b c ty):=by
 have HG:=(show Hid (GM w B t sp si sf n l) from h);obtain ⟨a0,c0,a1,c1,a2,c2,rfl,rfl,rfl⟩:=h.sl;have hcn:=h.cn;have hln:=h.ln;have bS:Bk (w.alloc (.cells (sc t.k t.n (.slice a0 t.len c0) (.slice a1 n c1) (.slice a2 l.length c2) nilV) 33)) w.heap.size (sc t.k t.n (.slice a0 t.len c0) (.slice a1 n c1) (.slice a2 l.length c2) nilV) 33:=Bk.new _ _ rfl;have hb0:Below w.heap.size w (w.alloc (.cells (sc t.k t.n (.slice a0 t.len c0) (.slice a1 n c1) (.slice a2 l.length c2) nilV) 33)):=bAz (Below.refl _ _) _;have HQ:Hid (KdQ (fun g=>(B<=g/\g<w.heap.size)/\∃ cs:Array Value,Bk w g cs 28) (w.alloc (.cells (sc t.k t.n (.slice a0 t.len c0) (.slice a1 n c1) (.slice a2 l.length c2) nilV) 33)) t (.slice a0 t.len c0)):=(h.kd.move (q:=fun g=>B<=g/\g<w.heap.size) (w':=w) fun g hg hl=>⟨⟨hg,hl⟩,rfl⟩).typ.move fun g hg hl=>⟨hg,hb0.block g hl⟩;have H1:=(show Hid _ from markPlan_any (k:=1) HQ.out (by omega));have HB0:=(show Hid _ from hb0);obtain ⟨x0,x1,x2,x3,x4,x5⟩:=bS.six;have HBS:=(show Hid (Bk _ _ _ _) from bS);clear h bS hb0;go_enter Tryd.func11,Tryd.ntmps11;go_wp2_with fail;generalize (w.alloc (.cells (sc t.k t.n (.slice a0 t.len c0) (.slice a1 n c1) (.slice a2 l.length c2) nilV) 33))=W0 at *;refine Calls.mono H1.out ?_;rintro e w1 ⟨rfl,hk1,hp1⟩;have hs0:=HB0.out.size
 -- what is no plan's block is as it was
 have HE:Hid (∀ b,b<w.heap.size->(∀ cs:Array Value,¬ Bk w b cs 28)->w1.heap[b]?=w.heap[b]?):=fun b hb hn=>(hp1.block b (by omega) (fun h=>by obtain ⟨_,cs,hc⟩:=h;exact hn cs hc)).trans (HB0.out.block b hb);have HBT:Hid (∀ (b:Nat) (c:Array Value) (ty:TypeId),Bk w b c ty->ty≠28->Bk w1 b c ty):=fun b c ty hb hn=>bk_move hb (HE.out b hb.lt fun cs hc=>bk_apart hb hc hn);have HBX:Hid (Bk w1 w.heap.size (sc t.k t.n (.slice a0 t.len c0) (.slice a1 n c1) (.slice a2 l.length c2) nilV) 33):=bk_move HBS.out (hp1.block _ HBS.out.lt (fun h=>by omega));have HLS:Hid ((n=0/\Value.slice a1 n c1=nilV)\/(n=2/\∃ q,Value.slice a1 n c1= .slice (some ⟨q,0,none⟩) 2 2/\Bk w1 q #[nilV,nilV] 31)):=by
  rcases HG.out.ls with h1|⟨h1,q,h2,h3,h4⟩
  ·exact .inl h1
  ·exact .inr ⟨h1,q,h3,bk_move h4 (HE.out q h4.lt fun cs hc=>bk_apart h4 hc (by decide))⟩
 have HOW:Hid (Own w1 B (.slice a2 l.length c2) l):=oA HG.out.ow fun b e=>HE.out b (oT HG.out.ow b e) fun cs hc=>by
  obtain ⟨c,hb⟩:=time_blkQ HG.out.ow e;exact bk_apart hb hc (by decide)
 have HK1:Hid (KdQ (fun g=>B<=g/\g<w.heap.size) w1 (numT t t.k t.n 1) (.slice a0 t.len c0)):=hk1.wk fun g hg=>hg.1;have HB1:Hid (Below B w w1):=hp1.below (HB0.out.mono hB) (by omega) (fun i hi=>hi.1.1);have H2:=(show Hid _ from markSS_none HLS.out ((1+2*cntT t:Nat):Int));clear x0 x1 x2 x3 x4 x5 H1 hk1 hp1 HE HQ HBS;obtain ⟨x0,x1,x2,x3,x4,x5⟩:=HBX.out.six;go_wp2_with fail;refine Calls.mono H2.out ?_;rintro e w2 ⟨rfl,hw2⟩;obtain rfl:w1=w2:=hw2.symm;have H3:=(show Hid _ from markO_q HOW.out (by omega) ((1+2*cntT t:Nat):Int) (by omega) (by omega));clear H2 hw2;go_wp2_with fail;refine Calls.mono H3.out ?_;rintro e w3 ⟨rfl,ow3,hor⟩;have hsz:w1.heap.size<=w3.heap.size:=by
  rcases hor with h|⟨g,c,_,_,hx⟩
  ·rw [h];exact Nat.le_refl _
  ·exact hx.size
 have HE3:Hid (∀ b,b<w1.heap.size->(∀ cs:Array Value,¬ Bk w1 b cs 46)->w3.heap[b]?=w1.heap[b]?):=fun b hb hn=>by
  rcases hor with h|⟨g,c,_,hg,hx⟩
  ·rw [h]
  ·exact hx.block b hb fun e=>by subst e;exact hn c hg
 have HB3:Hid (Below B w w3):=by
  rcases hor with h|⟨g,c,hg,hgb,hx⟩
  ·rw [h];exact HB1.out
  ·have hs1:=HB1.out.size;exact hx.below HB1.out (by omega) hg
 have HO3:=(show Hid _ from ow3);have HBT3:Hid (∀ (b:Nat) (c:Array Value) (ty:TypeId),Bk w b c ty->ty≠28->ty≠46->Bk w3 b c ty):=fun b c ty hb hn hn2=>by
  have h1:=HBT.out b c ty hb hn;exact bk_move h1 (HE3.out b h1.lt fun cs hc=>bk_apart h1 hc hn2)
 have HX3:Hid (Bk w3 w.heap.size (sc t.k t.n (.slice a0 t.len c0) (.slice a1 n c1) (.slice a2 l.length c2) nilV) 33):=bk_move HBX.out (HE3.out _ HBX.out.lt fun cs hc=>bk_apart HBX.out hc (by decide));have HG3:Hid (GM w3 B (numT t t.k t.n 1) (.slice a0 t.len c0) (.slice a1 n c1) (.slice a2 l.length c2) n (marksL ((1+2*cntT t:Nat):Int) l.length)):=by
  refine ⟨(KdQ.typ HK1.out).move fun g hg hl=>⟨hg.1.1,HE3.out g hl fun cs hc=>?_⟩,?_,HO3.out,by rw [cntT_numT];exact hcn,by rw [marksL_len];exact hln⟩
  ·obtain ⟨_,ds,hd⟩:=hg;exact bk_apart hd hc (by decide)
  ·rcases HLS.out with h1|⟨h1,q,h3,h4⟩
   ·exact .inl h1
   ·refine .inr ⟨h1,q,?_,h3,bk_move h4 (HE3.out q h4.lt fun cs hc=>bk_apart h4 hc (by decide))⟩
    rcases HG.out.ls with h5|⟨_,q',h6,h7,_⟩
    ·omega
    ·rw [h7] at h3;have e:q'=q:=by simpa using h3
     omega
 clear x0 x1 x2 x3 x4 x5 hor ow3 H3 HE3 HBX HB1 HLS HOW HK1;obtain ⟨x0,x1,x2,x3,x4,x5⟩:=HX3.out.six;go_wp2_with fail;refine (markRN_any _ w3).mono ?_;rintro e w4 ⟨rfl,hw4⟩;obtain rfl:w3=w4:=hw4.symm;clear x0 x1 x2 x3 x4 x5;go_wp2_with fail;go_ret;exact ⟨rfl,HG3.out,HB3.out,HBT3.out⟩
theorem heldSess_gm {w:World} {B:Nat} {t:PT} {sp si sf:Value} {n m:Nat} {a b k' n':Int} (h:GM w B (numT t a b 1) sp si sf n (marksL ((1+2*cntT t:Nat):Int) m)) :
  Calls Tryd.prog 12 #[sv k' n' sp si sf nilV, .int .i64 1] w fun e w'=>e= .returned (.int .i64 (((1+2*cntT t:Nat):Int)+2*(m:Int)))/\Below w.heap.size w w':=by
 have HG:=(show Hid (GM w B (numT t a b 1) sp si sf n (marksL ((1+2*cntT t:Nat):Int) m)) from h);obtain ⟨a0,c0,a1,c1,a2,c2,rfl,rfl,rfl⟩:=h.sl;have hcn:=h.cn;rw [cntT_numT] at hcn;have hln:=h.ln;rw [marksL_len] at hln;rw [marksL_len] at HG ⊢;have bS:Bk (w.alloc (.cells (sc k' n' (.slice a0 (numT t a b 1).len c0) (.slice a1 n c1) (.slice a2 m c2) nilV) 33)) w.heap.size (sc k' n' (.slice a0 (numT t a b 1).len c0) (.slice a1 n c1) (.slice a2 m c2) nilV) 33:=Bk.new _ _ rfl;have hb0:Below w.heap.size w (w.alloc (.cells (sc k' n' (.slice a0 (numT t a b 1).len c0) (.slice a1 n c1) (.slice a2 m c2) nilV) 33)):=bAz (Below.refl _ _) _;have H1:=(show Hid _ from heldPlan_any (K:=k') (N:=n') ((HG.out.keep hb0).kd.kd (B:=B) fun g hg=>hg) (by omega));obtain ⟨x0,x1,x2,x3,x4,x5⟩:=bS.six;have HBS:=(show Hid (Bk _ _ _ _) from bS);have hnn:¬ (((1+2*cntT t:Nat):Int)<0):=by omega
 clear h bS;go_enter Tryd.func12,Tryd.ntmps12;go_wp2_with fail;generalize (w.alloc (.cells (sc k' n' (.slice a0 (numT t a b 1).len c0) (.slice a1 n c1) (.slice a2 m c2) nilV) 33))=W0 at *;refine Calls.mono H1.out ?_;rintro e w1 ⟨rfl,hb1⟩;have hbw1:=bSz hb0 hb1;have HG1:=(show Hid _ from HG.out.keep hbw1);have HB1:=(show Hid (Bk _ _ _ _) from HBS.out.keep hb1);have H2:=(show Hid _ from heldSS_none (w:=w1) (si:= .slice a1 n c1) (n:=n) (by
  rcases HG1.out.ls with h|⟨h1,q,_,h3,h4⟩
  ·exact .inl h
  ·exact .inr ⟨h1,q,h3,h4⟩) ((1+2*cntT t:Nat):Int) (by omega) (by omega))
 clear x0 x1 x2 x3 x4 x5 hb0 hb1 H1 HBS;obtain ⟨x0,x1,x2,x3,x4,x5⟩:=HB1.out.six;go_wp2_with fail;refine Calls.mono H2.out ?_;rintro e w2 ⟨rfl,hb2⟩;have hbw2:=bSz hbw1 hb2;have HB2:=(show Hid (Bk _ _ _ _) from HB1.out.keep hb2);have H3:=(show Hid _ from held_any (.slice a2 m c2) m ((1+2*cntT t:Nat):Int) w2 (Own.ts (HG1.out.keep hb2).ow (by rw [marksL_len];omega)) (by omega) (by omega));have hnn2:¬ (((1+2*cntT t:Nat):Int)+2*(m:Int)<0):=by omega
 clear x0 x1 x2 x3 x4 x5 H2 hb2 HB1 hbw1;obtain ⟨x0,x1,x2,x3,x4,x5⟩:=HB2.out.six;go_wp2_with fail;refine Calls.mono H3.out ?_;rintro e w3 ⟨rfl,hb3⟩;have hbw3:=bSz hbw2 hb3;have HB3:=(show Hid (Bk _ _ _ _) from HB2.out.keep hb3);have H4:=(show Hid _ from heldR_none (((1+2*cntT t:Nat):Int)+2*(m:Int)) w3 (by omega) (by omega));clear x0 x1 x2 x3 x4 x5 H3 hb3 HB2 hbw2;obtain ⟨x0,x1,x2,x3,x4,x5⟩:=HB3.out.six;go_wp2_with fail;refine Calls.mono H4.out ?_;rintro e w4 ⟨rfl,hb4⟩;have hbw4:=bSz hbw3 hb4;clear x0 x1 x2 x3 x4 x5 H4 HB3;go_wp2_with fail;go_ret;exact ⟨rfl,hbw4⟩
end Go.Proofs.YtbdpcngcbnoioaaDoor
