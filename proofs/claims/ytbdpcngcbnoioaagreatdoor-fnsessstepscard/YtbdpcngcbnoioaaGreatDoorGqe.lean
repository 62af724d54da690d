import Derived.Test.YtbdpcngcbnoioaaGreatDoorGqd
set_option maxRecDepth 100000
set_option maxHeartbeats 32000000
namespace Go.Proofs.YtbdpcngcbnoioaaGreatDoor
open Go.RowKit Go.Shelf
open Go.RowKit.Below renaming heap_setCell->fD,refl->fH
open Go.RowKit renaming Below->fV
open Go.Proofs.Tryz renaming prog->gY,results24->gZ,results23->iC,ntmps24->jU,ntmps23->kR,func24->kX,func23->lI
open Go renaming bodyPost_ret->lY,World->mF,Value->mJ,Calls->nU,Addr->oJ
open _root_.Nat renaming le_trans->oO,le_refl->qA
open _root_.Array renaming getElem?_eq_some_iff->rN
variable {b:Bool}{g:LI}{gv sd sf si sp u:mJ}{w:mF}
section
attribute [local go_sem ↓] Go.wp_at_zero Go.wp_at_succ
theorem qM (F:oJ){s:SS}{r:List Rw}(G:(dI s).isSome=b)(hr:(dI s).getD []=r)(D:s.t.sm)(h:bY w sp si sf sd s)(hg:w.cell? ⟨0,0,none⟩=some (iB F)):
  nU gY 79 #[sv s.t.k s.t.n sp si sf sd] w fun e B=>∃(a:Option oJ)(c:Nat),e=.returned (.tuple #[.slice a r.length c,.bool b])/\Rs B (.slice a r.length c) r/\fV w.heap.size w B:=by
 subst G hr;exact Ez F D h hg
theorem EP {s:SS}(h:pX s g=none):(dI s).isSome=false\/cC g=false\/eQ s.f g=false:=by
 unfold pX at h;cases h1:dI s
 ·exact .inl rfl
 ·rw[h1]at h;cases h2:cC g
  ·exact .inr (.inl rfl)
  ·cases h3:eQ s.f g
   ·exact .inr (.inr rfl)
   ·simp[h2,h3]at h
theorem Cs (ea:oJ){s:SS}(hn:pX s g=none)(z7:s.t.sm)(h:bY w sp si sf sd s)(hl:Ts w gv g)(hg:w.cell? ⟨0,0,none⟩=some (iB ea)):
  nU gY 24 #[sv s.t.k s.t.n sp si sf sd,gv] w fun e w'=>∃sp si sf sd,e=.returned (.tuple #[sv 0 0 sp si sf sd,.slice none 0 0,.bool false])/\bY w' sp si sf sd zeroS/\fV w.heap.size w w':=by
 obtain⟨a0,c0,a1,c1,a2,c2,a3,c3,rfl,rfl,rfl,rfl⟩:=h.sl;have HL:Hid (Ts w gv g):=hl;obtain⟨al,cl,rfl,-⟩:=hl;have bA:Bk ((w.alloc (.cells (sc s.t.k s.t.n (.slice a0 s.t.len c0) (.slice a1 s.K.length c1) (.slice a2 s.f.length c2) (.slice a3 s.d.length c3)) 30)).alloc (.cells #[.int .i64 0,.int .i64 0,.slice none 0 0,.slice none 0 0,.slice none 0 0,.slice none 0 0] 30)) w.heap.size (sc s.t.k s.t.n (.slice a0 s.t.len c0) (.slice a1 s.K.length c1) (.slice a2 s.f.length c2) (.slice a3 s.d.length c3)) 30:=(Bk.new _ _ rfl).alloc _;have bR:Bk ((w.alloc (.cells (sc s.t.k s.t.n (.slice a0 s.t.len c0) (.slice a1 s.K.length c1) (.slice a2 s.f.length c2) (.slice a3 s.d.length c3)) 30)).alloc (.cells #[.int .i64 0,.int .i64 0,.slice none 0 0,.slice none 0 0,.slice none 0 0,.slice none 0 0] 30)) (w.heap.size+1) #[.int .i64 0,.int .i64 0,.slice none 0 0,.slice none 0 0,.slice none 0 0,.slice none 0 0] 30:=Bk.new _ _ (by simp);have O:fV w.heap.size w ((w.alloc (.cells (sc s.t.k s.t.n (.slice a0 s.t.len c0) (.slice a1 s.K.length c1) (.slice a2 s.f.length c2) (.slice a3 s.d.length c3)) 30)).alloc (.cells #[.int .i64 0,.int .i64 0,.slice none 0 0,.slice none 0 0,.slice none 0 0,.slice none 0 0] 30)):=aG (aG (fH _ _) _) _;have hS:=h.keep O;have hL:=HL.out.keep O;have U:=cB O hg;obtain⟨x0,x1,x2,x3,x4,x5⟩:=bA.aY;have HC:Hid ((dI s).isSome=false\/cC g=false\/eQ s.f g=false):=EP hn;clear h HL hg hn;obtain⟨r,hr⟩:∃r,(dI s).getD []=r:=⟨_,rfl⟩;cases y9:(dI s).isSome
 ·go_enter kX,jU;go_wp2_with fail;generalize ((w.alloc (.cells (sc s.t.k s.t.n (.slice a0 s.t.len c0) (.slice a1 s.K.length c1) (.slice a2 s.f.length c2) (.slice a3 s.d.length c3)) 30)).alloc (.cells #[.int .i64 0,.int .i64 0,.slice none 0 0,.slice none 0 0,.slice none 0 0,.slice none 0 0] 30))=W0 at*;refine (qM ea y9 hr z7 hS U).mono ?_;rintro e w1 ⟨am,cm,rfl,-,a⟩;have J:=bR.keep a;have S:=aH O a;clear x0 x1 x2 x3 x4 x5 bA bR O a hS hL U hr;have w4:=J.free 0;have I:=J.set 0 (.int .i64 0);have w3:=I.free 1;have H:=I.set 1 (.int .i64 0);have v9:=H.free 2;have G:=H.set 2 (.slice none 0 0);have v8:=G.free 3;have F:=G.set 3 (.slice none 0 0);have v7:=F.free 4;have D:=F.set 4 (.slice none 0 0);have v6:=D.free 5;have Q:=D.set 5 (.slice none 0 0);have sN:Bk ((((((w1.setCell ⟨w.heap.size+1,0,none⟩ (.int .i64 0)).setCell ⟨w.heap.size+1,1,none⟩ (.int .i64 0)).setCell ⟨w.heap.size+1,2,none⟩ (.slice none 0 0)).setCell ⟨w.heap.size+1,3,none⟩ (.slice none 0 0)).setCell ⟨w.heap.size+1,4,none⟩ (.slice none 0 0)).setCell ⟨w.heap.size+1,5,none⟩ (.slice none 0 0)) (w.heap.size+1) #[.int .i64 0,.int .i64 0,.slice none 0 0,.slice none 0 0,.slice none 0 0,.slice none 0 0] 30:=Q;obtain⟨v5,v4,v3,v2,v1,v0⟩:=J.aY;obtain⟨x9,x8,x7,x6,h9,Z⟩:=sN.aY;have R:∀z,z≠w.heap.size+1->((((((w1.setCell ⟨w.heap.size+1,0,none⟩ (.int .i64 0)).setCell ⟨w.heap.size+1,1,none⟩ (.int .i64 0)).setCell ⟨w.heap.size+1,2,none⟩ (.slice none 0 0)).setCell ⟨w.heap.size+1,3,none⟩ (.slice none 0 0)).setCell ⟨w.heap.size+1,4,none⟩ (.slice none 0 0)).setCell ⟨w.heap.size+1,5,none⟩ (.slice none 0 0)).heap[z]?=w1.heap[z]?:=fun z B=>(((((fD _ _ _ _ B).trans (fD _ _ _ _ B)).trans (fD _ _ _ _ B)).trans (fD _ _ _ _ B)).trans (fD _ _ _ _ B)).trans (fD _ _ _ _ B);clear I H G F D Q;have y2:Hid (fV w.heap.size w ((((((w1.setCell ⟨w.heap.size+1,0,none⟩ (.int .i64 0)).setCell ⟨w.heap.size+1,1,none⟩ (.int .i64 0)).setCell ⟨w.heap.size+1,2,none⟩ (.slice none 0 0)).setCell ⟨w.heap.size+1,3,none⟩ (.slice none 0 0)).setCell ⟨w.heap.size+1,4,none⟩ (.slice none 0 0)).setCell ⟨w.heap.size+1,5,none⟩ (.slice none 0 0))):=((((((S.setCell (by simp) _).setCell (by simp) _).setCell (by simp) _).setCell (by simp) _).setCell (by simp) _).setCell (by simp) _);clear R sN;go_wp2_with fail;refine lY (v:= .tuple #[sv 0 0 bM bM bM bM,.slice none 0 0,.bool false]) (by simp[results,gZ,go_sem,x9,x8,x7,x6,h9,Z];try rfl) rfl ?_;exact⟨_,_,_,_,rfl,j8 _,y2.out⟩
 cases hf:cC g
 ·go_enter kX,jU;go_wp2_with fail;generalize ((w.alloc (.cells (sc s.t.k s.t.n (.slice a0 s.t.len c0) (.slice a1 s.K.length c1) (.slice a2 s.f.length c2) (.slice a3 s.d.length c3)) 30)).alloc (.cells #[.int .i64 0,.int .i64 0,.slice none 0 0,.slice none 0 0,.slice none 0 0,.slice none 0 0] 30))=W0 at*;refine (qM ea y9 hr z7 hS U).mono ?_;rintro e w0 ⟨am,cm,rfl,-,a⟩;have y1:=bR.keep a;have T:=aH O a;have Y:=hL.keep a;clear x0 x1 x2 x3 x4 x5 bA bR O a hS hL U hr;go_wp2_with fail;refine (pE hf Y).mono ?_;rintro e w1 ⟨rfl,M⟩;have J:=y1.keep M;have S:=aH T M;clear y1 T M Y;have w4:=J.free 0;have I:=J.set 0 (.int .i64 0);have w3:=I.free 1;have H:=I.set 1 (.int .i64 0);have v9:=H.free 2;have G:=H.set 2 (.slice none 0 0);have v8:=G.free 3;have F:=G.set 3 (.slice none 0 0);have v7:=F.free 4;have D:=F.set 4 (.slice none 0 0);have v6:=D.free 5;have Q:=D.set 5 (.slice none 0 0);have sN:Bk ((((((w1.setCell ⟨w.heap.size+1,0,none⟩ (.int .i64 0)).setCell ⟨w.heap.size+1,1,none⟩ (.int .i64 0)).setCell ⟨w.heap.size+1,2,none⟩ (.slice none 0 0)).setCell ⟨w.heap.size+1,3,none⟩ (.slice none 0 0)).setCell ⟨w.heap.size+1,4,none⟩ (.slice none 0 0)).setCell ⟨w.heap.size+1,5,none⟩ (.slice none 0 0)) (w.heap.size+1) #[.int .i64 0,.int .i64 0,.slice none 0 0,.slice none 0 0,.slice none 0 0,.slice none 0 0] 30:=Q;obtain⟨v5,v4,v3,v2,v1,v0⟩:=J.aY;obtain⟨x9,x8,x7,x6,h9,Z⟩:=sN.aY;have R:∀z,z≠w.heap.size+1->((((((w1.setCell ⟨w.heap.size+1,0,none⟩ (.int .i64 0)).setCell ⟨w.heap.size+1,1,none⟩ (.int .i64 0)).setCell ⟨w.heap.size+1,2,none⟩ (.slice none 0 0)).setCell ⟨w.heap.size+1,3,none⟩ (.slice none 0 0)).setCell ⟨w.heap.size+1,4,none⟩ (.slice none 0 0)).setCell ⟨w.heap.size+1,5,none⟩ (.slice none 0 0)).heap[z]?=w1.heap[z]?:=fun z B=>(((((fD _ _ _ _ B).trans (fD _ _ _ _ B)).trans (fD _ _ _ _ B)).trans (fD _ _ _ _ B)).trans (fD _ _ _ _ B)).trans (fD _ _ _ _ B);clear I H G F D Q;have y2:Hid (fV w.heap.size w ((((((w1.setCell ⟨w.heap.size+1,0,none⟩ (.int .i64 0)).setCell ⟨w.heap.size+1,1,none⟩ (.int .i64 0)).setCell ⟨w.heap.size+1,2,none⟩ (.slice none 0 0)).setCell ⟨w.heap.size+1,3,none⟩ (.slice none 0 0)).setCell ⟨w.heap.size+1,4,none⟩ (.slice none 0 0)).setCell ⟨w.heap.size+1,5,none⟩ (.slice none 0 0))):=((((((S.setCell (by simp) _).setCell (by simp) _).setCell (by simp) _).setCell (by simp) _).setCell (by simp) _).setCell (by simp) _);clear R sN;go_wp2_with fail;refine lY (v:= .tuple #[sv 0 0 bM bM bM bM,.slice none 0 0,.bool false]) (by simp[results,gZ,go_sem,x9,x8,x7,x6,h9,Z];try rfl) rfl ?_;exact⟨_,_,_,_,rfl,j8 _,y2.out⟩
 have a7:eQ s.f g=false:=by
  rcases HC.out with h|h|h
  ·rw[y9]at h;cases h
  ·rw[hf]at h;cases h
  ·exact h
 go_enter kX,jU;go_wp2_with fail;generalize ((w.alloc (.cells (sc s.t.k s.t.n (.slice a0 s.t.len c0) (.slice a1 s.K.length c1) (.slice a2 s.f.length c2) (.slice a3 s.d.length c3)) 30)).alloc (.cells #[.int .i64 0,.int .i64 0,.slice none 0 0,.slice none 0 0,.slice none 0 0,.slice none 0 0] 30))=W0 at*;refine (qM ea y9 hr z7 hS U).mono ?_;rintro e w0 ⟨am,cm,rfl,-,a⟩;have y1:=bR.keep a;have a5:=bA.keep a;have T:=aH O a;have Y:=hL.keep a;have w7:=hS.keep a;clear x0 x1 x2 x3 x4 x5 bA bR O a hS hL U hr;go_wp2_with fail;refine (pE hf Y).mono ?_;rintro e w2 ⟨rfl,M⟩;have w9:=y1.keep M;have a4:=a5.keep M;have z8:=aH T M;have w8:=Y.keep M;have w5:=w7.keep M;obtain⟨x0,x1,x2,x3,x4,x5⟩:=a4.aY;clear y1 a5 T M Y w7;go_wp2_with fail;refine (wT a7 w5.ts w8).mono ?_;rintro e w1 ⟨rfl,z9⟩;have J:=w9.keep z9;have S:=aH z8 z9;clear x0 x1 x2 x3 x4 x5 a4 w9 z8 z9 w8 w5;have w4:=J.free 0;have I:=J.set 0 (.int .i64 0);have w3:=I.free 1;have H:=I.set 1 (.int .i64 0);have v9:=H.free 2;have G:=H.set 2 (.slice none 0 0);have v8:=G.free 3;have F:=G.set 3 (.slice none 0 0);have v7:=F.free 4;have D:=F.set 4 (.slice none 0 0);have v6:=D.free 5;have Q:=D.set 5 (.slice none 0 0);have sN:Bk ((((((w1.setCell ⟨w.heap.size+1,0,none⟩ (.int .i64 0)).setCell ⟨w.heap.size+1,1,none⟩ (.int .i64 0)).setCell ⟨w.heap.size+1,2,none⟩ (.slice none 0 0)).setCell ⟨w.heap.size+1,3,none⟩ (.slice none 0 0)).setCell ⟨w.heap.size+1,4,none⟩ (.slice none 0 0)).setCell ⟨w.heap.size+1,5,none⟩ (.slice none 0 0)) (w.heap.size+1) #[.int .i64 0,.int .i64 0,.slice none 0 0,.slice none 0 0,.slice none 0 0,.slice none 0 0] 30:=Q;obtain⟨v5,v4,v3,v2,v1,v0⟩:=J.aY;obtain⟨x9,x8,x7,x6,h9,Z⟩:=sN.aY;have R:∀z,z≠w.heap.size+1->((((((w1.setCell ⟨w.heap.size+1,0,none⟩ (.int .i64 0)).setCell ⟨w.heap.size+1,1,none⟩ (.int .i64 0)).setCell ⟨w.heap.size+1,2,none⟩ (.slice none 0 0)).setCell ⟨w.heap.size+1,3,none⟩ (.slice none 0 0)).setCell ⟨w.heap.size+1,4,none⟩ (.slice none 0 0)).setCell ⟨w.heap.size+1,5,none⟩ (.slice none 0 0)).heap[z]?=w1.heap[z]?:=fun z B=>(((((fD _ _ _ _ B).trans (fD _ _ _ _ B)).trans (fD _ _ _ _ B)).trans (fD _ _ _ _ B)).trans (fD _ _ _ _ B)).trans (fD _ _ _ _ B);clear I H G F D Q;have y2:Hid (fV w.heap.size w ((((((w1.setCell ⟨w.heap.size+1,0,none⟩ (.int .i64 0)).setCell ⟨w.heap.size+1,1,none⟩ (.int .i64 0)).setCell ⟨w.heap.size+1,2,none⟩ (.slice none 0 0)).setCell ⟨w.heap.size+1,3,none⟩ (.slice none 0 0)).setCell ⟨w.heap.size+1,4,none⟩ (.slice none 0 0)).setCell ⟨w.heap.size+1,5,none⟩ (.slice none 0 0))):=((((((S.setCell (by simp) _).setCell (by simp) _).setCell (by simp) _).setCell (by simp) _).setCell (by simp) _).setCell (by simp) _);clear R sN;go_wp2_with fail;refine lY (v:= .tuple #[sv 0 0 bM bM bM bM,.slice none 0 0,.bool false]) (by simp[results,gZ,go_sem,x9,x8,x7,x6,h9,Z];try rfl) rfl ?_;exact⟨_,_,_,_,rfl,j8 _,y2.out⟩
structure iV (A q N:Nat)(c:Array mJ)(VN gt dv:mJ)(d1 d2:List Rw)(L:Array Bool)(W:mF)(t5 t6 t39 t40 t41 t42 t43 t44 t45:mJ):Prop where
 s0:L.getD 0 false=true->t39=VN
 s1:L.getD 1 false=true->t40=.pointer (some ⟨q,5,none⟩)
 s2:L.getD 2 false=true->t41=gt
 s3:L.getD 3 false=true->t42=.pointer (some ⟨A,5,none⟩)
 s4:L.getD 4 false=true->t43=dv
 s5:L.getD 5 false=true->aD W N t44 d1
 s6:L.getD 6 false=true->aD W N t45 d2
 s7:L.getD 7 false=true->Bk W (A+1) c 30
 s8:L.getD 8 false=true->t5=t45
 s9:L.getD 9 false=true->t6=.bool true
 z:L.getD 7 true=false->Bk W (A+1) #[.int .i64 0,.int .i64 0,.slice none 0 0,.slice none 0 0,.slice none 0 0,.slice none 0 0] 30
 c8:L.getD 8 false=true->L.getD 6 false=true
variable {A q N:Nat}{c:Array mJ}{VN gt dv:mJ}{d1 d2:List Rw}{L:Array Bool}{W W':mF}{t5 t6 t39 t40 t41 t42 t43 t44 t45:mJ}
theorem iV.keep (h:iV A q N c VN gt dv d1 d2 L W t5 t6 t39 t40 t41 t42 t43 t44 t45)(a:fV W.heap.size W W'):iV A q N c VN gt dv d1 d2 L W' t5 t6 t39 t40 t41 t42 t43 t44 t45 where
 s0:=h.s0
 s1:=h.s1
 s2:=h.s2
 s3:=h.s3
 s4:=h.s4
 s5:=fun e=>bJ (h.s5 e) a
 s6:=fun e=>bJ (h.s6 e) a
 s7:=fun e=>(h.s7 e).keep a
 s8:=h.s8
 s9:=h.s9
 z:=fun e=>(h.z e).keep a
 c8:=h.c8
theorem iV.be (h:iV A q N c VN gt dv d1 d2 L W t5 t6 t39 t40 t41 t42 t43 t44 t45)(a:u=VN):iV A q N c VN gt dv d1 d2 (L.setIfInBounds 0 true) W t5 t6 u t40 t41 t42 t43 t44 t45 where
 s0:=fun _=>a
 s1:=fun e=>h.s1 (gS e)
 s2:=fun e=>h.s2 (gS e)
 s3:=fun e=>h.s3 (gS e)
 s4:=fun e=>h.s4 (gS e)
 s5:=fun e=>h.s5 (gS e)
 s6:=fun e=>h.s6 (gS e)
 s7:=fun e=>h.s7 (gS e)
 s8:=fun e=>h.s8 (gS e)
 s9:=fun e=>h.s9 (gS e)
 z:=fun e=>h.z (gT e)
 c8:=fun e=>a9 (h.c8 (gS e))
theorem iV.bG (h:iV A q N c VN gt dv d1 d2 L W t5 t6 t39 t40 t41 t42 t43 t44 t45)(a:u=.pointer (some ⟨q,5,none⟩)):iV A q N c VN gt dv d1 d2 (L.setIfInBounds 1 true) W t5 t6 t39 u t41 t42 t43 t44 t45 where
 s0:=fun e=>h.s0 (gS e)
 s1:=fun _=>a
 s2:=fun e=>h.s2 (gS e)
 s3:=fun e=>h.s3 (gS e)
 s4:=fun e=>h.s4 (gS e)
 s5:=fun e=>h.s5 (gS e)
 s6:=fun e=>h.s6 (gS e)
 s7:=fun e=>h.s7 (gS e)
 s8:=fun e=>h.s8 (gS e)
 s9:=fun e=>h.s9 (gS e)
 z:=fun e=>h.z (gT e)
 c8:=fun e=>a9 (h.c8 (gS e))
theorem iV.au (h:iV A q N c VN gt dv d1 d2 L W t5 t6 t39 t40 t41 t42 t43 t44 t45)(a:u=gt):iV A q N c VN gt dv d1 d2 (L.setIfInBounds 2 true) W t5 t6 t39 t40 u t42 t43 t44 t45 where
 s0:=fun e=>h.s0 (gS e)
 s1:=fun e=>h.s1 (gS e)
 s2:=fun _=>a
 s3:=fun e=>h.s3 (gS e)
 s4:=fun e=>h.s4 (gS e)
 s5:=fun e=>h.s5 (gS e)
 s6:=fun e=>h.s6 (gS e)
 s7:=fun e=>h.s7 (gS e)
 s8:=fun e=>h.s8 (gS e)
 s9:=fun e=>h.s9 (gS e)
 z:=fun e=>h.z (gT e)
 c8:=fun e=>a9 (h.c8 (gS e))
theorem iV.ar (h:iV A q N c VN gt dv d1 d2 L W t5 t6 t39 t40 t41 t42 t43 t44 t45)(a:u=.pointer (some ⟨A,5,none⟩)):iV A q N c VN gt dv d1 d2 (L.setIfInBounds 3 true) W t5 t6 t39 t40 t41 u t43 t44 t45 where
 s0:=fun e=>h.s0 (gS e)
 s1:=fun e=>h.s1 (gS e)
 s2:=fun e=>h.s2 (gS e)
 s3:=fun _=>a
 s4:=fun e=>h.s4 (gS e)
 s5:=fun e=>h.s5 (gS e)
 s6:=fun e=>h.s6 (gS e)
 s7:=fun e=>h.s7 (gS e)
 s8:=fun e=>h.s8 (gS e)
 s9:=fun e=>h.s9 (gS e)
 z:=fun e=>h.z (gT e)
 c8:=fun e=>a9 (h.c8 (gS e))
theorem iV.aq (h:iV A q N c VN gt dv d1 d2 L W t5 t6 t39 t40 t41 t42 t43 t44 t45)(a:u=dv):iV A q N c VN gt dv d1 d2 (L.setIfInBounds 4 true) W t5 t6 t39 t40 t41 t42 u t44 t45 where
 s0:=fun e=>h.s0 (gS e)
 s1:=fun e=>h.s1 (gS e)
 s2:=fun e=>h.s2 (gS e)
 s3:=fun e=>h.s3 (gS e)
 s4:=fun _=>a
 s5:=fun e=>h.s5 (gS e)
 s6:=fun e=>h.s6 (gS e)
 s7:=fun e=>h.s7 (gS e)
 s8:=fun e=>h.s8 (gS e)
 s9:=fun e=>h.s9 (gS e)
 z:=fun e=>h.z (gT e)
 c8:=fun e=>a9 (h.c8 (gS e))
theorem iV.ai (h:iV A q N c VN gt dv d1 d2 L W t5 t6 t39 t40 t41 t42 t43 t44 t45)(a:aD W N u d1):iV A q N c VN gt dv d1 d2 (L.setIfInBounds 5 true) W t5 t6 t39 t40 t41 t42 t43 u t45 where
 s0:=fun e=>h.s0 (gS e)
 s1:=fun e=>h.s1 (gS e)
 s2:=fun e=>h.s2 (gS e)
 s3:=fun e=>h.s3 (gS e)
 s4:=fun e=>h.s4 (gS e)
 s5:=fun _=>a
 s6:=fun e=>h.s6 (gS e)
 s7:=fun e=>h.s7 (gS e)
 s8:=fun e=>h.s8 (gS e)
 s9:=fun e=>h.s9 (gS e)
 z:=fun e=>h.z (gT e)
 c8:=fun e=>a9 (h.c8 (gS e))
theorem iV.bm (s:L.getD 8 false=true->False)(h:iV A q N c VN gt dv d1 d2 L W t5 t6 t39 t40 t41 t42 t43 t44 t45)(a:aD W N u d2):iV A q N c VN gt dv d1 d2 (L.setIfInBounds 6 true) W t5 t6 t39 t40 t41 t42 t43 t44 u where
 s0:=fun e=>h.s0 (gS e)
 s1:=fun e=>h.s1 (gS e)
 s2:=fun e=>h.s2 (gS e)
 s3:=fun e=>h.s3 (gS e)
 s4:=fun e=>h.s4 (gS e)
 s5:=fun e=>h.s5 (gS e)
 s6:=fun _=>a
 s7:=fun e=>h.s7 (gS e)
 s8:=fun e=>(s (gS e)).elim
 s9:=fun e=>h.s9 (gS e)
 z:=fun e=>h.z (gT e)
 c8:=fun e=>a9 (h.c8 (gS e))
theorem iV.bj (a:L.getD 6 false=true)(h:iV A q N c VN gt dv d1 d2 L W t5 t6 t39 t40 t41 t42 t43 t44 t45)(s:u=t45):iV A q N c VN gt dv d1 d2 (L.setIfInBounds 8 true) W u t6 t39 t40 t41 t42 t43 t44 t45 where
 s0:=fun e=>h.s0 (gS e)
 s1:=fun e=>h.s1 (gS e)
 s2:=fun e=>h.s2 (gS e)
 s3:=fun e=>h.s3 (gS e)
 s4:=fun e=>h.s4 (gS e)
 s5:=fun e=>h.s5 (gS e)
 s6:=fun e=>h.s6 (gS e)
 s7:=fun e=>h.s7 (gS e)
 s8:=fun _=>s
 s9:=fun e=>h.s9 (gS e)
 z:=fun e=>h.z (gT e)
 c8:=fun e=>a9 (a)
theorem iV.cE (h:iV A q N c VN gt dv d1 d2 L W t5 t6 t39 t40 t41 t42 t43 t44 t45)(a:u=.bool true):iV A q N c VN gt dv d1 d2 (L.setIfInBounds 9 true) W t5 u t39 t40 t41 t42 t43 t44 t45 where
 s0:=fun e=>h.s0 (gS e)
 s1:=fun e=>h.s1 (gS e)
 s2:=fun e=>h.s2 (gS e)
 s3:=fun e=>h.s3 (gS e)
 s4:=fun e=>h.s4 (gS e)
 s5:=fun e=>h.s5 (gS e)
 s6:=fun e=>h.s6 (gS e)
 s7:=fun e=>h.s7 (gS e)
 s8:=fun e=>h.s8 (gS e)
 s9:=fun _=>a
 z:=fun e=>h.z (gT e)
 c8:=fun e=>a9 (h.c8 (gS e))
theorem iV.bl (B:L.size=10)(D:A+1<N)(h:iV A q N c VN gt dv d1 d2 L W t5 t6 t39 t40 t41 t42 t43 t44 t45)(hx:∀x,x≠A+1->W'.heap[x]?=W.heap[x]?)(a:Bk W' (A+1) c 30):iV A q N c VN gt dv d1 d2 (L.setIfInBounds 7 true) W' t5 t6 t39 t40 t41 t42 t43 t44 t45 where
 s0:=fun e=>h.s0 (gS e)
 s1:=fun e=>h.s1 (gS e)
 s2:=fun e=>h.s2 (gS e)
 s3:=fun e=>h.s3 (gS e)
 s4:=fun e=>h.s4 (gS e)
 s5:=fun e=>by have o:=h.s5 (gS e);exact dF o fun z e=>hx z (by have:=oB o z e;omega)
 s6:=fun e=>by have o:=h.s6 (gS e);exact dF o fun z e=>hx z (by have:=oB o z e;omega)
 s7:=fun _=>a
 s8:=fun e=>h.s8 (gS e)
 s9:=fun e=>h.s9 (gS e)
 z:=fun s=>absurd s (by rw[gH (by omega)];decide)
 c8:=fun e=>a9 (h.c8 (gS e))
def N9 (A q N:Nat)(c:Array mJ)(VN gt dv:mJ)(d1 d2:List Rw)(W0:mF)(L:Array Bool)(a:Act)(W:mF):Prop:=
 L.size=10/\Bx (A+1) W0 W/\∃z0 z1 z3 z7 z8 z10 z11 z12 z13 z14 z15 z16 z17 z18 z19 z20 z21 z22 z23 z24 z25 z26 z27 z28 z29 z30 z31 z32 z33 z34 z35 z36 z37 z38 t5 t6 t39 t40 t41 t42 t43 t44 t45:mJ,
  a={ tmps:=#[z0,z1,.pointer (some ⟨A,0,none⟩),z3,.pointer (some ⟨A+1,0,none⟩),t5,t6,z7,z8,.pointer (some ⟨q,0,none⟩),z10,z11,z12,z13,z14,z15,z16,z17,z18,z19,z20,z21,z22,z23,z24,z25,z26,z27,z28,z29,z30,z31,z32,z33,z34,z35,z36,z37,z38,t39,t40,t41,t42,t43,t44,t45],defers:=[] }/\iV A q N c VN gt dv d1 d2 L W t5 t6 t39 t40 t41 t42 t43 t44 t45
theorem kG {i:Nat}{W0:mF}{z0 z1 z3 z7 z8 y0 x9 x8 x7 x6 x5 x4 x3 x2 x1 x0 h9 Z Y U T R Q O M J I H G F D B s a:mJ}(y1:L.size=10)(hx:Bx (A+1) W0 W')(S:iV A q N c VN gt dv d1 d2 (L.setIfInBounds i true) W' t5 t6 t39 t40 t41 t42 t43 t44 t45):
  N9 A q N c VN gt dv d1 d2 W0 (L.setIfInBounds i true) { tmps:=#[z0,z1,.pointer (some ⟨A,0,none⟩),z3,.pointer (some ⟨A+1,0,none⟩),t5,t6,z7,z8,.pointer (some ⟨q,0,none⟩),y0,x9,x8,x7,x6,x5,x4,x3,x2,x1,x0,h9,Z,Y,U,T,R,Q,O,M,J,I,H,G,F,D,B,s,a,t39,t40,t41,t42,t43,t44,t45],defers:=[] } W':=
 ⟨by simp[y1],hx,_,_,_,_,_,_,_,_,_,_,_,_,_,_,_,_,_,_,_,_,_,_,_,_,_,_,_,_,_,_,_,_,_,_,_,_,_,_,_,_,_,_,_,rfl,S⟩
end
open Go.RowKit Go.Shelf
attribute [local go_sem ↓] Go.wp_at_zero Go.wp_at_succ
theorem lR.aN {V:mF}{B x:Nat}{s:SS}(h:lR w B sp si sf sd s)(hx:Bx x w V)(a:x<B):lR V B sp si sf sd s:=by
 obtain⟨vs,h1,h2⟩:=h.ly;exact⟨h.kd.move fun g hg hl=>⟨hg,hx.block g hl (by have:=hg.1;omega)⟩,⟨vs,oX h1 hx a,h2.1,fun i u l F D=>oX (h2.2.1 i u l F D) hx a,h2.2.2⟩,oX h.ts hx a,oX h.rs hx a⟩
theorem AK (f g:LI)(r:List Rw):(iN f g r).length<=r.length:=List.length_filter_le _ _
theorem uD (ea:oJ){s:SS}{r:List Rw}(hr:dI s=some r)(hf:cC g=true)(i3:eQ s.f g=true)(tT:g.length<=1000)(zB:s.t.sm)(h:bY w sp si sf sd s)(hl:Ts w gv g)(hg:w.cell? ⟨0,0,none⟩=some (iB ea)):
  nU gY 24 #[sv s.t.k s.t.n sp si sf sd,gv] w fun e w'=>∃sp si sf sd mv,e=.returned (.tuple #[sv s.t.k s.t.n sp si sf sd,mv,.bool true])/\fF w' (fun z=>w.heap.size+2<=z) sp si sf sd ⟨s.t,s.K,g,aJ g r⟩/\aD w' (w.heap.size+2) mv (iN s.f g r)/\fV w.heap.size w w':=by
 obtain⟨a0,c0,a1,c1,a2,c2,a3,c3,rfl,rfl,rfl,rfl⟩:=h.sl;have HL:Hid (Ts w gv g):=hl;have l8:Hid (bY w (.slice a0 s.t.len c0) (.slice a1 s.K.length c1) (.slice a2 s.f.length c2) (.slice a3 s.d.length c3) s):=h;obtain⟨al,cl,rfl,-⟩:=hl;have bA:Bk ((w.alloc (.cells (sc s.t.k s.t.n (.slice a0 s.t.len c0) (.slice a1 s.K.length c1) (.slice a2 s.f.length c2) (.slice a3 s.d.length c3)) 30)).alloc (.cells #[.int .i64 0,.int .i64 0,.slice none 0 0,.slice none 0 0,.slice none 0 0,.slice none 0 0] 30)) w.heap.size (sc s.t.k s.t.n (.slice a0 s.t.len c0) (.slice a1 s.K.length c1) (.slice a2 s.f.length c2) (.slice a3 s.d.length c3)) 30:=(Bk.new _ _ rfl).alloc _;have bR:Bk ((w.alloc (.cells (sc s.t.k s.t.n (.slice a0 s.t.len c0) (.slice a1 s.K.length c1) (.slice a2 s.f.length c2) (.slice a3 s.d.length c3)) 30)).alloc (.cells #[.int .i64 0,.int .i64 0,.slice none 0 0,.slice none 0 0,.slice none 0 0,.slice none 0 0] 30)) (w.heap.size+1) #[.int .i64 0,.int .i64 0,.slice none 0 0,.slice none 0 0,.slice none 0 0,.slice none 0 0] 30:=Bk.new _ _ (by simp);have v0:fV w.heap.size w ((w.alloc (.cells (sc s.t.k s.t.n (.slice a0 s.t.len c0) (.slice a1 s.K.length c1) (.slice a2 s.f.length c2) (.slice a3 s.d.length c3)) 30)).alloc (.cells #[.int .i64 0,.int .i64 0,.slice none 0 0,.slice none 0 0,.slice none 0 0,.slice none 0 0] 30)):=aG (aG (fH _ _) _) _;have hS:=h.keep v0;have hL:=HL.out.keep v0;have i2:=cB v0 hg;obtain⟨x0,x1,x2,x3,x4,x5⟩:=bA.aY;have i0:(dI s).isSome=true:=by rw[hr];rfl
 have g9:(dI s).getD []=r:=by rw[hr];rfl
 have v9:=AC hr;have HD:Hid (iY (aJ g r) (dA s.d)=iN s.f g r):=by
  show _=_
  obtain⟨_,h2,h3⟩:=dS.1 hr;rw[<- h3];exact II (pZ h2) i3
 have tE:r.length<=400:=k7 (dS.1 hr).2.1;have hal:=kD g r;clear h HL hg hr;go_enter kX,jU;go_wp2_with fail;generalize ((w.alloc (.cells (sc s.t.k s.t.n (.slice a0 s.t.len c0) (.slice a1 s.K.length c1) (.slice a2 s.f.length c2) (.slice a3 s.d.length c3)) 30)).alloc (.cells #[.int .i64 0,.int .i64 0,.slice none 0 0,.slice none 0 0,.slice none 0 0,.slice none 0 0] 30))=W0 at*;refine (qM ea i0 g9 zB hS i2).mono ?_;rintro e w0 ⟨am,cm,rfl,k1,O⟩;have l1:=bR.keep O;have l4:=bA.keep O;have e7:=aH v0 O;have f6:=hL.keep O;have j1:=hS.keep O;clear x0 x1 x2 x3 x4 x5 bA bR v0 O hS hL i2 g9 i0;go_wp2_with fail;refine (pE hf f6).mono ?_;rintro e w2 ⟨rfl,x9⟩;have l0:=l1.keep x9;have g0:=l4.keep x9;have e4:=aH e7 x9;have f3:=f6.keep x9;have f1:=j1.keep x9;have k0:=k1.keep x9;obtain⟨x0,x1,x2,x3,x4,x5⟩:=g0.aY;clear l1 l4 e7 x9 f6 j1 k1;go_wp2_with fail;refine (wT i3 f1.ts f3).mono ?_;rintro e w3 ⟨rfl,x8⟩;have f7:=l0.keep x8;have f8:=g0.keep x8;have e3:=aH e4 x8;have f2:=f3.keep x8;have f0:=f1.keep x8;have j5:=k0.keep x8;clear x0 x1 x2 x3 x4 x5 l0 g0 e4 x8 f3 f1 k0;obtain⟨x0,x1,x2,x3,x4,x5⟩:=f8.aY;go_wp2_with fail;refine (EN f0 v9).mono ?_;rintro e B ⟨oL,oM,sG,sH,rfl,sO,U⟩;obtain⟨H,F,G,D,p2,q2,p3,q3,rfl,rfl,rfl,rfl⟩:=(sO.ses v9).sl;have sI:w.heap.size+2<=w3.heap.size:=by have:=f7.lt;omega
 have xE:=U.size;have b5:Bk (B.alloc (.cells (sc s.t.k s.t.n (.slice H s.t.len F) (.slice G s.K.length D) (.slice p2 s.f.length q2) (.slice p3 s.d.length q3)) 30)) B.heap.size (sc s.t.k s.t.n (.slice H s.t.len F) (.slice G s.K.length D) (.slice p2 s.f.length q2) (.slice p3 s.d.length q3)) 30:=Bk.new _ _ rfl;have e8:fV B.heap.size B (B.alloc (.cells (sc s.t.k s.t.n (.slice H s.t.len F) (.slice G s.K.length D) (.slice p2 s.f.length q2) (.slice p3 s.d.length q3)) 30)):=aG (fH _ _) _;have k3:Ts (B.alloc (.cells (sc s.t.k s.t.n (.slice H s.t.len F) (.slice G s.K.length D) (.slice p2 s.f.length q2) (.slice p3 s.d.length q3)) 30)) (.slice al g.length cl) g:=(f2.keep U).keep e8;have OT:aW (B.alloc (.cells (sc s.t.k s.t.n (.slice H s.t.len F) (.slice G s.K.length D) (.slice p2 s.f.length q2) (.slice p3 s.d.length q3)) 30)) (B.heap.size+1) (.slice none 0 0) []:=oN _ _ _ _ _;have z5:B.heap.size+1<=(B.alloc (.cells (sc s.t.k s.t.n (.slice H s.t.len F) (.slice G s.K.length D) (.slice p2 s.f.length q2) (.slice p3 s.d.length q3)) 30)).heap.size:=by simp
 have g5:B.heap.size<=(B.alloc (.cells (sc s.t.k s.t.n (.slice H s.t.len F) (.slice G s.K.length D) (.slice p2 s.f.length q2) (.slice p3 s.d.length q3)) 30)).heap.size:=by omega
 have l7:Hid (lR B w3.heap.size (.slice H s.t.len F) (.slice G s.K.length D) (.slice p2 s.f.length q2) (.slice p3 s.d.length q3) s):=sO;have k4:=f2.keep U;have j4:=j5.keep U;have k5:=f7.keep U;have l3:=f8.keep U;have i5:=f0.keep U;have e1:=aH e3 U;clear x0 x1 x2 x3 x4 x5 f7 f8 e3 f2 f0 j5 U sO
 go_wp2_with (at_builtin;refine D6 _ rfl _ _ rfl (B.heap.size+1) (.slice none 0 0) [] rfl OT _ g rfl k3 (by simp;omega) z5 ?_;intro v6 w6 v8 d5;obtain⟨J,c6,rfl⟩:∃a c,v6=.slice a g.length c:=qJ (l:=g) v8;have z9:aW w6 (B.heap.size+1) (.slice J g.length c6) g:=v8;have i4:fV B.heap.size B w6:=Below.aO e8 d5 g5 (fun z e=>by cases e);have b6:Bk w6 B.heap.size (sc s.t.k s.t.n (.slice H s.t.len F) (.slice G s.K.length D) (.slice p2 s.f.length q2) (.slice p3 s.d.length q3)) 30:=b5.aO d5 (fun z e=>by cases e);obtain⟨y0,y1,y2,y3,y4,y5⟩:=b6.aY;have f4:=b6.free 4)
 have w9:fV B.heap.size B (w6.setCell ⟨B.heap.size,4,none⟩ (.slice J g.length c6)):=i4.setCell (qA _) _;have b7:Bk (w6.setCell ⟨B.heap.size,4,none⟩ (.slice J g.length c6)) B.heap.size (sc s.t.k s.t.n (.slice H s.t.len F) (.slice G s.K.length D) (.slice J g.length c6) (.slice p3 s.d.length q3)) 30:=b6.set 4 _;have d3:aW (w6.setCell ⟨B.heap.size,4,none⟩ (.slice J g.length c6)) (B.heap.size+1) (.slice J g.length c6) g:=dF z9 fun z e=>fD _ _ _ _ (by have:=oB z9 z e;show z≠B.heap.size;omega);have k2:=k4.keep w9;have j3:=j4.keep w9;have z7:B.heap.size+1<=(w6.setCell ⟨B.heap.size,4,none⟩ (.slice J g.length c6)).heap.size:=by have:=b7.lt;omega
 clear y0 y1 y2 y3 y4 y5 f4 b6 i4 v8 z9 d5 b5 e8 k3 OT z5 g5;generalize (w6.setCell ⟨B.heap.size,4,none⟩ (.slice J g.length c6))=W7 at*;refine (tQ _ _ g r _ k2 j3 (by omega)).mono ?_;rintro e w8 ⟨o8,rfl,z6,w7⟩;obtain⟨I,c8,rfl,-⟩:=Rs.open (aD.rs z6 (by omega));have b8:=b7.keep w7;have e9:fV B.heap.size B w8:=aH w9 w7;have b9:Bk (w8.setCell ⟨B.heap.size,5,none⟩ (.slice I (aJ g r).length c8)) B.heap.size (sc s.t.k s.t.n (.slice H s.t.len F) (.slice G s.K.length D) (.slice J g.length c6) (.slice I (aJ g r).length c8)) 30:=b8.set 5 _;have Q:fV B.heap.size B (w8.setCell ⟨B.heap.size,5,none⟩ (.slice I (aJ g r).length c8)):=e9.setCell (qA _) _;have d4:aW w8 (B.heap.size+1) (.slice J g.length c6) g:=bJ d3 w7;have h9:aW (w8.setCell ⟨B.heap.size,5,none⟩ (.slice I (aJ g r).length c8)) (B.heap.size+1) (.slice J g.length c6) g:=dF d4 fun z e=>fD _ _ _ _ (by have:=oB d4 z e;show z≠B.heap.size;omega);have T:aD (w8.setCell ⟨B.heap.size,5,none⟩ (.slice I (aJ g r).length c8)) W7.heap.size (.slice I (aJ g r).length c8) (aJ g r):=dF z6 fun z e=>fD _ _ _ _ (by have:=oB z6 z e;show z≠B.heap.size;omega);have l2:=l3.keep Q;have zW:=k5.keep Q;have zD:=i5.keep Q;have w5:=aH e1 Q;obtain⟨y0,y1,y2,y3,y4,y5⟩:=b8.aY;have f5:=b8.free 5;have g1:Hid (lR (w8.setCell ⟨B.heap.size,5,none⟩ (.slice I (aJ g r).length c8)) w3.heap.size (.slice H s.t.len F) (.slice G s.K.length D) (.slice p2 s.f.length q2) (.slice p3 s.d.length q3) s):=l7.out.aN (x:=w.heap.size+1) (Bx.aA Q) (by omega);have hY:=Q.size;clear l7 k4 j4 k5 l3 i5 e1 w9 b7 d3 k2 j3 e9 d4 z6 Q w7;go_wp2_with fail;clear y0 y1 y2 y3 y4 y5 f5 b8;generalize (w8.setCell ⟨B.heap.size,5,none⟩ (.slice I (aJ g r).length c8))=W9 at*;have u4:w.heap.size+2<=B.heap.size+1/\w.heap.size+2<=W7.heap.size/\w.heap.size+2<=w3.heap.size:=by omega
 have wR:Hid (fF W9 (fun z=>w.heap.size+2<=z) (.slice H s.t.len F) (.slice G s.K.length D) (.slice J g.length c6) (.slice I (aJ g r).length c8) ⟨s.t,s.K,g,aJ g r⟩):=fun V Z=>by
  have e:=(g1.out.db (V:=V) fun z hz hl=>Z z (oO u4.2.2 hz) hl).ses v9;exact⟨e.kd,e.ly,aW.ts (dF h9 fun z e=>Z z (oO u4.1 (oB h9 z e)) (oT h9 z e)) (by show g.length<=2097152;omega),aD.rs (dF T fun z e=>Z z (oO u4.2.1 (oB T z e)) (oT T z e)) (by show (aJ g r).length<=2097152;omega)⟩
 clear u4;have wP:Hid (∀V:mF,Bx (w.heap.size+1) W9 V->V.cell? ⟨w.heap.size,5,none⟩=some (.slice a3 s.d.length c3)):=fun V Z=>(l2.aN Z (by omega)).aY.2.2.2.2.2;have l5:Hid (∀V:mF,Bx (w.heap.size+1) W9 V->Bk V B.heap.size (sc s.t.k s.t.n (.slice H s.t.len F) (.slice G s.K.length D) (.slice J g.length c6) (.slice I (aJ g r).length c8)) 30):=fun V Z=>b9.aN Z (by omega);have l9:Hid (∀V:mF,Bx (w.heap.size+1) W9 V->fV w.heap.size w V):=fun V Z=>Z.below w5 w5.size (by omega);have aL:Hid (∀V:mF,Bx (w.heap.size+1) W9 V->Rs V (.slice I (aJ g r).length c8) (aJ g r)):=fun V Z=>aD.rs (oX T Z (by omega)) (by omega);have aF:Hid (∀V:mF,Bx (w.heap.size+1) W9 V->Rs V (.slice a3 s.d.length c3) s.d):=fun V Z=>(l8.out.keep (l9.out V Z)).rs;have dL:w.heap.size+2<=W9.heap.size:=by omega
 have eF:=Ef s.d;clear l8 g1 h9 T l2 b9 w5 zD xE hY z7;refine j9 (by kernel_rfl) (N9 w.heap.size B.heap.size (w.heap.size+2) #[.int .i64 s.t.k,.int .i64 s.t.n,.slice H s.t.len F,.slice G s.K.length D,.slice J g.length c6,.slice I (aJ g r).length c8] (sv s.t.k s.t.n (.slice H s.t.len F) (.slice G s.K.length D) (.slice J g.length c6) (.slice I (aJ g r).length c8)) (.slice I (aJ g r).length c8) (.slice a3 s.d.length c3) (dA s.d) (iN s.f g r) W9) ?hg ?hs ?h0 ?hstep ?hend
 case hg=>
  intro i o ho;have hi:i<10:=(rN.1 ho).1;obtain rfl|rfl|rfl|rfl|rfl|rfl|rfl|rfl|rfl|rfl:i=0\/i=1\/i=2\/i=3\/i=4\/i=5\/i=6\/i=7\/i=8\/i=9:=by omega
  all_goals cases ho;rfl
 case hs=>intro L a W hI;exact hI.1
 case h0=>
  refine⟨by simp,Bx.aA (fH _ _).drew,_,_,_,_,_,_,_,_,_,_,_,_,_,_,_,_,_,_,_,_,_,_,_,_,_,_,_,_,_,_,_,_,_,_,_,_,_,_,_,_,_,_,_,rfl,?_⟩;constructor
  case z=>exact fun _=>zW
  all_goals (intro e;simp at e)
 case hstep=>
  rintro L a W i o ⟨M,hx,z0,z1,z3,z7,z8,hN,hM,hJ,hH,hG,hE,hD,hC,hB,hA,t9,t8,t7,t4,t3,t2,t1,t0,r8,r7,q9,q6,q5,q4,p9,p5,p4,o9,o7,t5,t6,t39,t40,t41,t42,t43,t44,t45,rfl,S⟩ hi ho;obtain⟨g8,o',i1,R⟩:=mem_ready.1 hi;rw[ho]at i1;cases i1;have tS:i<10:=(rN.1 ho).1;have j2:w.heap.size+2<=W.heap.size:=by have:=hx.size;omega
  clear hi;generalize hK:(fun a' w'=>N9 w.heap.size B.heap.size (w.heap.size+2) #[.int .i64 s.t.k,.int .i64 s.t.n,.slice H s.t.len F,.slice G s.K.length D,.slice J g.length c6,.slice I (aJ g r).length c8] (sv s.t.k s.t.n (.slice H s.t.len F) (.slice G s.K.length D) (.slice J g.length c6) (.slice I (aJ g r).length c8)) (.slice I (aJ g r).length c8) (.slice a3 s.d.length c3) (dA s.d) (iN s.f g r) W9 (L.setIfInBounds i true) a' w')=K;obtain rfl|rfl|rfl|rfl|rfl|rfl|rfl|rfl|rfl|rfl:i=0\/i=1\/i=2\/i=3\/i=4\/i=5\/i=6\/i=7\/i=8\/i=9:=by omega
  ·cases ho;obtain⟨x0,x1,x2,x3,x4,x5⟩:=(l5.out _ hx).aY;go_simp;subst hK;exact kG M hx (S.be rfl)
  ·cases ho;go_simp;subst hK;exact kG M hx (S.bG rfl)
  ·cases ho;have e0:=S.s1 (R ⟨1,.data⟩ (by simp) rfl);subst e0;obtain⟨x0,x1,x2,x3,x4,x5⟩:=(l5.out _ hx).aY;go_simp;subst hK;exact kG M hx (S.au rfl)
  ·cases ho;go_simp;subst hK;exact kG M hx (S.ar rfl)
  ·cases ho;have e0:=S.s3 (R ⟨3,.data⟩ (by simp) rfl);subst e0;have xa:=wP.out _ hx;go_simp;subst hK;exact kG M hx (S.aq rfl)
  ·cases ho;have e0:=S.s4 (R ⟨4,.data⟩ (by simp) rfl);subst e0;go_simp;refine (vV _ s.d _ (aF.out _ hx)).mono ?_;rintro e W1 ⟨o1,rfl,u0,O⟩;subst hK;exact kG M (hx.trans (Bx.aA O)) ((S.keep O).ai (bQ u0 j2))
  ·cases ho;have e2:=S.s2 (R ⟨2,.data⟩ (by simp) rfl);have o5:=S.s5 (R ⟨5,.data⟩ (by simp) rfl);subst e2;go_simp;refine (vY _ _ (aJ g r) (dA s.d) _ (aL.out _ hx) (aD.rs o5 (by omega))).mono ?_;rintro e W1 ⟨o1,rfl,u0,O⟩;subst hK;rw[HD.out]at u0;exact kG M (hx.trans (Bx.aA O)) ((S.keep O).bm (fun e=>gN (S.c8 e) g8) (bQ u0 j2))
  ·cases ho;have e0:=S.s0 (R ⟨0,.data⟩ (by simp) rfl);have bq:=S.z g8;subst e0;have sE:=bq.free 0;have d0:=bq.set 0 (.int .i64 s.t.k);have rL:=d0.free 1;have c9:=d0.set 1 (.int .i64 s.t.n);have rE:=c9.free 2;have c4:=c9.set 2 (.slice H s.t.len F);have rD:=c4.free 3;have b4:=c4.set 3 (.slice G s.K.length D);have rA:=b4.free 4;have b3:=b4.set 4 (.slice J g.length c6);have oV:=b3.free 5;have g7:=b3.set 5 (.slice I (aJ g r).length c8);have sN:Bk ((((((W.setCell ⟨w.heap.size+1,0,none⟩ (.int .i64 s.t.k)).setCell ⟨w.heap.size+1,1,none⟩ (.int .i64 s.t.n)).setCell ⟨w.heap.size+1,2,none⟩ (.slice H s.t.len F)).setCell ⟨w.heap.size+1,3,none⟩ (.slice G s.K.length D)).setCell ⟨w.heap.size+1,4,none⟩ (.slice J g.length c6)).setCell ⟨w.heap.size+1,5,none⟩ (.slice I (aJ g r).length c8)) (w.heap.size+1) #[.int .i64 s.t.k,.int .i64 s.t.n,.slice H s.t.len F,.slice G s.K.length D,.slice J g.length c6,.slice I (aJ g r).length c8] 30:=g7;obtain⟨oK,oI,oE,oD,oA,nK⟩:=bq.aY;obtain⟨hU,hT,hR,hQ,hP,hO⟩:=sN.aY;have b2:∀z,z≠w.heap.size+1->((((((W.setCell ⟨w.heap.size+1,0,none⟩ (.int .i64 s.t.k)).setCell ⟨w.heap.size+1,1,none⟩ (.int .i64 s.t.n)).setCell ⟨w.heap.size+1,2,none⟩ (.slice H s.t.len F)).setCell ⟨w.heap.size+1,3,none⟩ (.slice G s.K.length D)).setCell ⟨w.heap.size+1,4,none⟩ (.slice J g.length c6)).setCell ⟨w.heap.size+1,5,none⟩ (.slice I (aJ g r).length c8)).heap[z]?=W.heap[z]?:=fun z hz=>(((((fD _ _ _ _ hz).trans (fD _ _ _ _ hz)).trans (fD _ _ _ _ hz)).trans (fD _ _ _ _ hz)).trans (fD _ _ _ _ hz)).trans (fD _ _ _ _ hz);clear d0 c9 c4 b4 b3 g7;have o3:Hid (∀z,z≠w.heap.size+1->((((((W.setCell ⟨w.heap.size+1,0,none⟩ (.int .i64 s.t.k)).setCell ⟨w.heap.size+1,1,none⟩ (.int .i64 s.t.n)).setCell ⟨w.heap.size+1,2,none⟩ (.slice H s.t.len F)).setCell ⟨w.heap.size+1,3,none⟩ (.slice G s.K.length D)).setCell ⟨w.heap.size+1,4,none⟩ (.slice J g.length c6)).setCell ⟨w.heap.size+1,5,none⟩ (.slice I (aJ g r).length c8)).heap[z]?=W.heap[z]?):=b2;have aE:Hid (Bk ((((((W.setCell ⟨w.heap.size+1,0,none⟩ (.int .i64 s.t.k)).setCell ⟨w.heap.size+1,1,none⟩ (.int .i64 s.t.n)).setCell ⟨w.heap.size+1,2,none⟩ (.slice H s.t.len F)).setCell ⟨w.heap.size+1,3,none⟩ (.slice G s.K.length D)).setCell ⟨w.heap.size+1,4,none⟩ (.slice J g.length c6)).setCell ⟨w.heap.size+1,5,none⟩ (.slice I (aJ g r).length c8)) (w.heap.size+1) #[.int .i64 s.t.k,.int .i64 s.t.n,.slice H s.t.len F,.slice G s.K.length D,.slice J g.length c6,.slice I (aJ g r).length c8] 30):=sN;have bD:Hid (Bx (w.heap.size+1) W9 ((((((W.setCell ⟨w.heap.size+1,0,none⟩ (.int .i64 s.t.k)).setCell ⟨w.heap.size+1,1,none⟩ (.int .i64 s.t.n)).setCell ⟨w.heap.size+1,2,none⟩ (.slice H s.t.len F)).setCell ⟨w.heap.size+1,3,none⟩ (.slice G s.K.length D)).setCell ⟨w.heap.size+1,4,none⟩ (.slice J g.length c6)).setCell ⟨w.heap.size+1,5,none⟩ (.slice I (aJ g r).length c8))):=(((((hx.ae rfl _).ae rfl _).ae rfl _).ae rfl _).ae rfl _).ae rfl _;have aS:=S.bl M (by omega) o3.out aE.out;clear b2 sN hU hT hR hQ hP hO;go_simp;generalize ((((((W.setCell ⟨w.heap.size+1,0,none⟩ (.int .i64 s.t.k)).setCell ⟨w.heap.size+1,1,none⟩ (.int .i64 s.t.n)).setCell ⟨w.heap.size+1,2,none⟩ (.slice H s.t.len F)).setCell ⟨w.heap.size+1,3,none⟩ (.slice G s.K.length D)).setCell ⟨w.heap.size+1,4,none⟩ (.slice J g.length c6)).setCell ⟨w.heap.size+1,5,none⟩ (.slice I (aJ g r).length c8))=WX at*;subst hK;exact kG M bD.out aS
  ·cases ho;have l6:=R ⟨6,.data⟩ (by simp) rfl;go_simp;subst hK;exact kG M hx (S.bj l6 rfl)
  ·cases ho;go_simp;subst hK;exact kG M hx (S.cE rfl)
 case hend=>
  rintro L a W ⟨M,hx,z0,z1,z3,z7,z8,hN,hM,hJ,hH,hG,hE,hD,hC,hB,hA,t9,t8,t7,t4,t3,t2,t1,t0,r8,r7,q9,q6,q5,q4,p9,p5,p4,o9,o7,t5,t6,t39,t40,t41,t42,t43,t44,t45,rfl,S⟩ hr;have Y:∀j,j<10->L.getD j false=true:=by
   refine jI (by simpa using M) ?_ hr;intro i o ho;have hi:i<10:=(rN.1 ho).1;obtain rfl|rfl|rfl|rfl|rfl|rfl|rfl|rfl|rfl|rfl:i=0\/i=1\/i=2\/i=3\/i=4\/i=5\/i=6\/i=7\/i=8\/i=9:=by omega
   all_goals cases ho
   all_goals (first|(simp;done)|(simp[Region.binds];done)|decide)
  have bN:=S.s7 (Y 7 (by omega));have o6:=S.s6 (Y 6 (by omega));have e5:=S.s8 (Y 8 (by omega));have e6:=S.s9 (Y 9 (by omega));subst e5 e6;have aI:Hid (aD W (w.heap.size+2) t5 (iN s.f g r)):=bQ o6 (by omega);have HF:=wR.out.move (w1:=W) (q:=fun z=>w.heap.size+2<=z) (fun z hz hl=>⟨hz,hx.block z hl (by omega)⟩) hx.size;have bB:Hid (fF W (fun z=>w.heap.size+2<=z) (.slice H s.t.len F) (.slice G s.K.length D) (.slice J g.length c6) (.slice I (aJ g r).length c8) ⟨s.t,s.K,g,aJ g r⟩):=HF;have bE:Hid (fV w.heap.size w W):=l9.out W hx;obtain⟨r0,r1,r2,r3,r4,r5⟩:=bN.aY;clear Y S hr bN o6 HF hx;go_wp2_with fail;refine lY (v:= .tuple #[sv s.t.k s.t.n (.slice H s.t.len F) (.slice G s.K.length D) (.slice J g.length c6) (.slice I (aJ g r).length c8),t5,.bool true]) (by simp[results,gZ,go_sem,r0,r1,r2,r3,r4,r5];try rfl) rfl ?_;exact⟨_,_,_,_,_,rfl,bB.out,aI.out,bE.out⟩
attribute [local go_sem ↓] Go.wp_at_zero Go.wp_at_succ
theorem E5 {t:PT}{B:Nat}{s iv:mJ}{K:List (List Rw)}{r:List Rw}(hf:dG t K=some r)(hs:cZ B w t s)(hi:eG w iv K):
  nU gY 69 #[pl t.k t.n s,iv] w fun e a=>∃o:mJ,e=.returned (.tuple #[o,.bool true])/\aD a w.heap.size o r/\fV w.heap.size w a:=by
 refine (n7 hs hi (fun _ _ _ _ _ _=>trivial)).mono ?_;rintro e w1 ⟨o,rfl,own,D⟩;rw[hf]at own ⊢;exact⟨o,rfl,own,D⟩
theorem wG {s:SS}(hn:pX s g=none)(h:bY w sp si sf sd s)(hl:Ts w gv g):
  nU gY 23 #[sv s.t.k s.t.n sp si sf sd,gv] w fun e w'=>∃sp si sf sd mv,e=.returned (.tuple #[sv 0 0 sp si sf sd,mv,.bool false])/\fF w' (fun z=>w.heap.size+2<=z) sp si sf sd zeroS/\Rs w' mv []/\fV w.heap.size w w':=by
 obtain⟨a0,c0,a1,c1,Q,c2,a3,c3,rfl,rfl,rfl,rfl⟩:=h.sl;have HL:Hid (Ts w gv g):=hl;obtain⟨al,cl,rfl,-⟩:=hl;have bA:Bk (((w.alloc (.cells (sc s.t.k s.t.n (.slice a0 s.t.len c0) (.slice a1 s.K.length c1) (.slice Q s.f.length c2) (.slice a3 s.d.length c3)) 30)).alloc (.cells #[.int .i64 0,.int .i64 0,.slice none 0 0,.slice none 0 0,.slice none 0 0,.slice none 0 0] 30)).alloc (.cells #[] 55)) w.heap.size (sc s.t.k s.t.n (.slice a0 s.t.len c0) (.slice a1 s.K.length c1) (.slice Q s.f.length c2) (.slice a3 s.d.length c3)) 30:=((Bk.new _ _ rfl).alloc _).alloc _;have bR:Bk (((w.alloc (.cells (sc s.t.k s.t.n (.slice a0 s.t.len c0) (.slice a1 s.K.length c1) (.slice Q s.f.length c2) (.slice a3 s.d.length c3)) 30)).alloc (.cells #[.int .i64 0,.int .i64 0,.slice none 0 0,.slice none 0 0,.slice none 0 0,.slice none 0 0] 30)).alloc (.cells #[] 55)) (w.heap.size+1) #[.int .i64 0,.int .i64 0,.slice none 0 0,.slice none 0 0,.slice none 0 0,.slice none 0 0] 30:=(Bk.new _ _ (by simp)).alloc _;have S:fV w.heap.size w (((w.alloc (.cells (sc s.t.k s.t.n (.slice a0 s.t.len c0) (.slice a1 s.K.length c1) (.slice Q s.f.length c2) (.slice a3 s.d.length c3)) 30)).alloc (.cells #[.int .i64 0,.int .i64 0,.slice none 0 0,.slice none 0 0,.slice none 0 0,.slice none 0 0] 30)).alloc (.cells #[] 55)):=aG (aG (aG (fH _ _) _) _) _;have hS:=h.keep S;have hL:=HL.out.keep S;obtain⟨x0,x1,x2,x3,x4,x5⟩:=bA.aY;have e7:Hid ((dI s).isSome=false\/cC g=false\/eQ s.f g=false):=EP hn;clear h hn;cases z9:(dI s).isSome
 ·go_enter lI,kR;go_wp2_with fail;generalize (((w.alloc (.cells (sc s.t.k s.t.n (.slice a0 s.t.len c0) (.slice a1 s.K.length c1) (.slice Q s.f.length c2) (.slice a3 s.d.length c3)) 30)).alloc (.cells #[.int .i64 0,.int .i64 0,.slice none 0 0,.slice none 0 0,.slice none 0 0,.slice none 0 0] 30)).alloc (.cells #[] 55))=W0 at*;refine (fO z9 hS).mono ?_;rintro e w1 ⟨rfl,a⟩;have h9:=bR.keep a;have z7:=aH S a;clear x0 x1 x2 x3 x4 x5 bA bR S a hS hL;have a6:=h9.free 0;have M:=h9.set 0 (.int .i64 0);have a5:=M.free 1;have J:=M.set 1 (.int .i64 0);have a4:=J.free 2;have I:=J.set 2 (.slice none 0 0);have w9:=I.free 3;have H:=I.set 3 (.slice none 0 0);have w8:=H.free 4;have G:=H.set 4 (.slice none 0 0);have w5:=G.free 5;have R:=G.set 5 (.slice none 0 0);have sN:Bk ((((((w1.setCell ⟨w.heap.size+1,0,none⟩ (.int .i64 0)).setCell ⟨w.heap.size+1,1,none⟩ (.int .i64 0)).setCell ⟨w.heap.size+1,2,none⟩ (.slice none 0 0)).setCell ⟨w.heap.size+1,3,none⟩ (.slice none 0 0)).setCell ⟨w.heap.size+1,4,none⟩ (.slice none 0 0)).setCell ⟨w.heap.size+1,5,none⟩ (.slice none 0 0)) (w.heap.size+1) #[.int .i64 0,.int .i64 0,.slice none 0 0,.slice none 0 0,.slice none 0 0,.slice none 0 0] 30:=R;obtain⟨w4,w3,v9,v8,v7,v6⟩:=h9.aY;obtain⟨y6,y5,y4,y3,y2,y1⟩:=sN.aY;have T:∀z,z≠w.heap.size+1->((((((w1.setCell ⟨w.heap.size+1,0,none⟩ (.int .i64 0)).setCell ⟨w.heap.size+1,1,none⟩ (.int .i64 0)).setCell ⟨w.heap.size+1,2,none⟩ (.slice none 0 0)).setCell ⟨w.heap.size+1,3,none⟩ (.slice none 0 0)).setCell ⟨w.heap.size+1,4,none⟩ (.slice none 0 0)).setCell ⟨w.heap.size+1,5,none⟩ (.slice none 0 0)).heap[z]?=w1.heap[z]?:=fun z D=>(((((fD _ _ _ _ D).trans (fD _ _ _ _ D)).trans (fD _ _ _ _ D)).trans (fD _ _ _ _ D)).trans (fD _ _ _ _ D)).trans (fD _ _ _ _ D);clear M J I H G R;have z4:Hid (fV w.heap.size w ((((((w1.setCell ⟨w.heap.size+1,0,none⟩ (.int .i64 0)).setCell ⟨w.heap.size+1,1,none⟩ (.int .i64 0)).setCell ⟨w.heap.size+1,2,none⟩ (.slice none 0 0)).setCell ⟨w.heap.size+1,3,none⟩ (.slice none 0 0)).setCell ⟨w.heap.size+1,4,none⟩ (.slice none 0 0)).setCell ⟨w.heap.size+1,5,none⟩ (.slice none 0 0))):=((((((z7.setCell (by simp) _).setCell (by simp) _).setCell (by simp) _).setCell (by simp) _).setCell (by simp) _).setCell (by simp) _);clear T sN;go_wp2_with fail;refine lY (v:= .tuple #[sv 0 0 bM bM bM bM,.slice (some ⟨w.heap.size+1+1,0,none⟩) 0 0,.bool false]) (by simp[results,iC,go_sem,y6,y5,y4,y3,y2,y1];try rfl) rfl ?_;exact⟨_,_,_,_,_,rfl,fun V _=>j8 V,wM _ _,z4.out⟩
 cases hf:cC g
 ·go_enter lI,kR;go_wp2_with fail;generalize (((w.alloc (.cells (sc s.t.k s.t.n (.slice a0 s.t.len c0) (.slice a1 s.K.length c1) (.slice Q s.f.length c2) (.slice a3 s.d.length c3)) 30)).alloc (.cells #[.int .i64 0,.int .i64 0,.slice none 0 0,.slice none 0 0,.slice none 0 0,.slice none 0 0] 30)).alloc (.cells #[] 55))=W0 at*;refine (fO z9 hS).mono ?_;rintro e w0 ⟨rfl,a⟩;have z2:=bR.keep a;have z3:=bA.keep a;have Y:=aH S a;have Z:=hL.keep a;have y9:=hS.keep a;clear x0 x1 x2 x3 x4 x5 bA bR S a hS hL;go_wp2_with fail;refine (sQ hf Z).mono ?_;rintro e w1 ⟨rfl,F⟩;have h9:=z2.keep F;have u4:=z3.keep F;have z7:=aH Y F;have z1:=Z.keep F;have u0:=y9.keep F;clear z2 z3 Y F Z y9;clear u4 z1 u0;have a6:=h9.free 0;have M:=h9.set 0 (.int .i64 0);have a5:=M.free 1;have J:=M.set 1 (.int .i64 0);have a4:=J.free 2;have I:=J.set 2 (.slice none 0 0);have w9:=I.free 3;have H:=I.set 3 (.slice none 0 0);have w8:=H.free 4;have G:=H.set 4 (.slice none 0 0);have w5:=G.free 5;have R:=G.set 5 (.slice none 0 0);have sN:Bk ((((((w1.setCell ⟨w.heap.size+1,0,none⟩ (.int .i64 0)).setCell ⟨w.heap.size+1,1,none⟩ (.int .i64 0)).setCell ⟨w.heap.size+1,2,none⟩ (.slice none 0 0)).setCell ⟨w.heap.size+1,3,none⟩ (.slice none 0 0)).setCell ⟨w.heap.size+1,4,none⟩ (.slice none 0 0)).setCell ⟨w.heap.size+1,5,none⟩ (.slice none 0 0)) (w.heap.size+1) #[.int .i64 0,.int .i64 0,.slice none 0 0,.slice none 0 0,.slice none 0 0,.slice none 0 0] 30:=R;obtain⟨w4,w3,v9,v8,v7,v6⟩:=h9.aY;obtain⟨y6,y5,y4,y3,y2,y1⟩:=sN.aY;have T:∀z,z≠w.heap.size+1->((((((w1.setCell ⟨w.heap.size+1,0,none⟩ (.int .i64 0)).setCell ⟨w.heap.size+1,1,none⟩ (.int .i64 0)).setCell ⟨w.heap.size+1,2,none⟩ (.slice none 0 0)).setCell ⟨w.heap.size+1,3,none⟩ (.slice none 0 0)).setCell ⟨w.heap.size+1,4,none⟩ (.slice none 0 0)).setCell ⟨w.heap.size+1,5,none⟩ (.slice none 0 0)).heap[z]?=w1.heap[z]?:=fun z D=>(((((fD _ _ _ _ D).trans (fD _ _ _ _ D)).trans (fD _ _ _ _ D)).trans (fD _ _ _ _ D)).trans (fD _ _ _ _ D)).trans (fD _ _ _ _ D);clear M J I H G R;have z4:Hid (fV w.heap.size w ((((((w1.setCell ⟨w.heap.size+1,0,none⟩ (.int .i64 0)).setCell ⟨w.heap.size+1,1,none⟩ (.int .i64 0)).setCell ⟨w.heap.size+1,2,none⟩ (.slice none 0 0)).setCell ⟨w.heap.size+1,3,none⟩ (.slice none 0 0)).setCell ⟨w.heap.size+1,4,none⟩ (.slice none 0 0)).setCell ⟨w.heap.size+1,5,none⟩ (.slice none 0 0))):=((((((z7.setCell (by simp) _).setCell (by simp) _).setCell (by simp) _).setCell (by simp) _).setCell (by simp) _).setCell (by simp) _);clear T sN;go_wp2_with fail;refine lY (v:= .tuple #[sv 0 0 bM bM bM bM,.slice (some ⟨w.heap.size+1+1,0,none⟩) 0 0,.bool false]) (by simp[results,iC,go_sem,y6,y5,y4,y3,y2,y1];try rfl) rfl ?_;exact⟨_,_,_,_,_,rfl,fun V _=>j8 V,wM _ _,z4.out⟩
 have d4:eQ s.f g=false:=by
  rcases e7.out with h|h|h
  ·rw[z9]at h;cases h
  ·rw[hf]at h;cases h
  ·exact h
 go_enter lI,kR;go_wp2_with fail;generalize (((w.alloc (.cells (sc s.t.k s.t.n (.slice a0 s.t.len c0) (.slice a1 s.K.length c1) (.slice Q s.f.length c2) (.slice a3 s.d.length c3)) 30)).alloc (.cells #[.int .i64 0,.int .i64 0,.slice none 0 0,.slice none 0 0,.slice none 0 0,.slice none 0 0] 30)).alloc (.cells #[] 55))=W0 at*;refine (fO z9 hS).mono ?_;rintro e w0 ⟨rfl,a⟩;have z2:=bR.keep a;have z3:=bA.keep a;have Y:=aH S a;have Z:=hL.keep a;have y9:=hS.keep a;clear x0 x1 x2 x3 x4 x5 bA bR S a hS hL;go_wp2_with fail;refine (sQ hf Z).mono ?_;rintro e O ⟨rfl,F⟩;have b0:=z2.keep F;have u4:=z3.keep F;have v1:=aH Y F;have z1:=Z.keep F;have u0:=y9.keep F;clear z2 z3 Y F Z y9;have e6:Hid (bY O (.slice a0 s.t.len c0) (.slice a1 s.K.length c1) (.slice Q s.f.length c2) (.slice a3 s.d.length c3) s):=u0;have e9:Hid (Bk O w.heap.size (sc s.t.k s.t.n (.slice a0 s.t.len c0) (.slice a1 s.K.length c1) (.slice Q s.f.length c2) (.slice a3 s.d.length c3)) 30):=u4;have b1:Hid (Bk O (w.heap.size+1) #[.int .i64 0,.int .i64 0,.slice none 0 0,.slice none 0 0,.slice none 0 0,.slice none 0 0] 30):=b0;have g1:Hid (Ts O (.slice al g.length cl) g):=z1;have e8:Hid (fV w.heap.size w O):=v1;obtain⟨a',f3,e',-,d0,f8,y8⟩:=Bs z1;unfold maxLen at d0;obtain⟨rfl,-,rfl⟩:=mJ.slice.inj e';have HC:=(show Hid _ from y8);clear y8 e' u0 u4 b0 z1 v1;go_wp2_with fail
 go_loopw [8] (fun i wr=>∃k:Nat,k<=g.length/\i=.int .i64 k/\eQ s.f (g.take k)=true/\fV O.heap.size O wr) (fun i _=>g.length-(intOf i).toNat)
 case atStart=>exact⟨0,by omega,rfl,rfl,fH _ _⟩
 case round=>
  obtain⟨k,g0,rfl,v2,hb⟩:=hrel;have HA:=(show Hid (eQ s.f (g.take k)=true) from v2);clear v2
  by_cases d3:k<g.length
  ·obtain⟨q,off,A,B,rfl,hq,hr,a8,a7⟩:=HC.out k d3;have HZ:=(show Hid (g[k]?=some (A,B)) from hr);have ik:((k:Int)<(g.length:Int)):=by omega
   have U:fV O.heap.size O wr.drew:=hb.drew;have HX:Hid (∀V:mF,fV O.heap.size O V->V.cell? ⟨w.heap.size,4,none⟩=some (.slice Q s.f.length c2)/\V.cell? ⟨q,off+k*2,none⟩=some (.int .i64 A)/\V.cell? ⟨q,off+k*2+1,none⟩=some (.int .i64 B)):=fun V hV=>⟨(e9.out.keep hV).aY.2.2.2.2.1,cB hV a8,cB hV a7⟩;have T1:Hid (Ts wr.drew (.slice Q s.f.length c2) s.f):=(e6.out.keep U).ts;clear a8 a7 hr;cases z6:fE s.f A B
   ·have e2:=b1.out.keep hb;go_wp2_with fail
    go_region_held3 (fun V=>V.cell? ⟨w.heap.size,4,none⟩=some (.slice Q s.f.length c2)/\V.cell? ⟨q,off+k*2,none⟩=some (.int .i64 A)/\V.cell? ⟨q,off+k*2+1,none⟩=some (.int .i64 B))
     (first|exact HX.out _ U|exact HX.out _ x6)
     (first
      | (go_at_call 62;refine (nQ z6 T1.out).mono ?_;rintro e w7 ⟨rfl,z8⟩;have x6:fV O.heap.size O w7:=aH U z8))
    all_goals
     have v4:=b1.out.keep x6;have b9:=aH e8.out x6;clear e2;have a6:=v4.free 0;have M:=v4.set 0 (.int .i64 0);have a5:=M.free 1;have J:=M.set 1 (.int .i64 0);have a4:=J.free 2;have I:=J.set 2 (.slice none 0 0);have w9:=I.free 3;have H:=I.set 3 (.slice none 0 0);have w8:=H.free 4;have G:=H.set 4 (.slice none 0 0);have w5:=G.free 5;have R:=G.set 5 (.slice none 0 0);have sN:Bk ((((((w7.setCell ⟨w.heap.size+1,0,none⟩ (.int .i64 0)).setCell ⟨w.heap.size+1,1,none⟩ (.int .i64 0)).setCell ⟨w.heap.size+1,2,none⟩ (.slice none 0 0)).setCell ⟨w.heap.size+1,3,none⟩ (.slice none 0 0)).setCell ⟨w.heap.size+1,4,none⟩ (.slice none 0 0)).setCell ⟨w.heap.size+1,5,none⟩ (.slice none 0 0)) (w.heap.size+1) #[.int .i64 0,.int .i64 0,.slice none 0 0,.slice none 0 0,.slice none 0 0,.slice none 0 0] 30:=R;obtain⟨w4,w3,v9,v8,v7,v6⟩:=v4.aY;obtain⟨y6,y5,y4,y3,y2,y1⟩:=sN.aY;have T:∀z,z≠w.heap.size+1->((((((w7.setCell ⟨w.heap.size+1,0,none⟩ (.int .i64 0)).setCell ⟨w.heap.size+1,1,none⟩ (.int .i64 0)).setCell ⟨w.heap.size+1,2,none⟩ (.slice none 0 0)).setCell ⟨w.heap.size+1,3,none⟩ (.slice none 0 0)).setCell ⟨w.heap.size+1,4,none⟩ (.slice none 0 0)).setCell ⟨w.heap.size+1,5,none⟩ (.slice none 0 0)).heap[z]?=w7.heap[z]?:=fun z D=>(((((fD _ _ _ _ D).trans (fD _ _ _ _ D)).trans (fD _ _ _ _ D)).trans (fD _ _ _ _ D)).trans (fD _ _ _ _ D)).trans (fD _ _ _ _ D);clear M J I H G R;have z4:Hid (fV w.heap.size w ((((((w7.setCell ⟨w.heap.size+1,0,none⟩ (.int .i64 0)).setCell ⟨w.heap.size+1,1,none⟩ (.int .i64 0)).setCell ⟨w.heap.size+1,2,none⟩ (.slice none 0 0)).setCell ⟨w.heap.size+1,3,none⟩ (.slice none 0 0)).setCell ⟨w.heap.size+1,4,none⟩ (.slice none 0 0)).setCell ⟨w.heap.size+1,5,none⟩ (.slice none 0 0))):=((((((b9.setCell (by simp) _).setCell (by simp) _).setCell (by simp) _).setCell (by simp) _).setCell (by simp) _).setCell (by simp) _);clear T sN;go_wp2_with fail;refine lY (v:= .tuple #[sv 0 0 bM bM bM bM,.slice (some ⟨w.heap.size+1+1,0,none⟩) 0 0,.bool false]) (by simp[results,iC,go_sem,y6,y5,y4,y3,y2,y1];try rfl) rfl ?_;exact⟨_,_,_,_,_,rfl,fun V _=>j8 V,wM _ _,z4.out⟩
   ·have e5:Hid (eQ s.f (g.take (k+1))=true):=by
     show _=_
     have h1:=HA.out;unfold eQ at h1 ⊢;rw[gL HZ.out,List.all_append,h1];simp[z6]
    go_wp2_with fail
    go_region_held3 (fun V=>V.cell? ⟨w.heap.size,4,none⟩=some (.slice Q s.f.length c2)/\V.cell? ⟨q,off+k*2,none⟩=some (.int .i64 A)/\V.cell? ⟨q,off+k*2+1,none⟩=some (.int .i64 B))
     (first|exact HX.out _ U|exact HX.out _ x6)
     (first
      | (go_at_call 62;refine (nQ z6 T1.out).mono ?_;rintro e w7 ⟨rfl,z8⟩;have x6:fV O.heap.size O w7:=aH U z8))
    all_goals
     go_wp2_with fail;go_roundw
     case rel=>exact⟨k+1,by omega,by go_num,e5.out,x6⟩
     case measure=>simp[intOf];omega
  ·obtain rfl:k=g.length:=by omega
   have ik:¬((g.length:Int)<(g.length:Int)):=by omega
   exfalso
   have h1:=HA.out;rw[List.take_length,d4]at h1;cases h1
theorem uI {s:SS}{r:List Rw}(hr:dI s=some r)(hf:cC g=true)(o1:eQ s.f g=true)(hgl:g.length<=1000)(h:bY w sp si sf sd s)(hl:Ts w gv g):
  nU gY 23 #[sv s.t.k s.t.n sp si sf sd,gv] w fun e w'=>∃sp si sf sd mv,e=.returned (.tuple #[sv s.t.k s.t.n sp si sf sd,mv,.bool true])/\fF w' (fun z=>w.heap.size+2<=z) sp si sf sd ⟨s.t,s.K,g,aJ g r⟩/\Rs w' mv (iN s.f g r)/\fV w.heap.size w w':=by
 obtain⟨a0,c0,a1,c1,a2,c2,a3,c3,rfl,rfl,rfl,rfl⟩:=h.sl;have HL:Hid (Ts w gv g):=hl;obtain⟨al,cl,rfl,-⟩:=hl;have bA:Bk (((w.alloc (.cells (sc s.t.k s.t.n (.slice a0 s.t.len c0) (.slice a1 s.K.length c1) (.slice a2 s.f.length c2) (.slice a3 s.d.length c3)) 30)).alloc (.cells #[.int .i64 0,.int .i64 0,.slice none 0 0,.slice none 0 0,.slice none 0 0,.slice none 0 0] 30)).alloc (.cells #[] 55)) w.heap.size (sc s.t.k s.t.n (.slice a0 s.t.len c0) (.slice a1 s.K.length c1) (.slice a2 s.f.length c2) (.slice a3 s.d.length c3)) 30:=((Bk.new _ _ rfl).alloc _).alloc _;have bR:Bk (((w.alloc (.cells (sc s.t.k s.t.n (.slice a0 s.t.len c0) (.slice a1 s.K.length c1) (.slice a2 s.f.length c2) (.slice a3 s.d.length c3)) 30)).alloc (.cells #[.int .i64 0,.int .i64 0,.slice none 0 0,.slice none 0 0,.slice none 0 0,.slice none 0 0] 30)).alloc (.cells #[] 55)) (w.heap.size+1) #[.int .i64 0,.int .i64 0,.slice none 0 0,.slice none 0 0,.slice none 0 0,.slice none 0 0] 30:=(Bk.new _ _ (by simp)).alloc _;have e8:fV w.heap.size w (((w.alloc (.cells (sc s.t.k s.t.n (.slice a0 s.t.len c0) (.slice a1 s.K.length c1) (.slice a2 s.f.length c2) (.slice a3 s.d.length c3)) 30)).alloc (.cells #[.int .i64 0,.int .i64 0,.slice none 0 0,.slice none 0 0,.slice none 0 0,.slice none 0 0] 30)).alloc (.cells #[] 55)):=aG (aG (aG (fH _ _) _) _) _;have hS:=h.keep e8;have hL:=HL.out.keep e8;obtain⟨x0,x1,x2,x3,x4,x5⟩:=bA.aY;have aI:(dI s).isSome=true:=by rw[hr];rfl
 have b4:=AC hr;have HD:Hid (aP aQ (aJ g r++dA s.d)=iN s.f g r):=by
  show _=_
  obtain⟨_,h2,h3⟩:=dS.1 hr;rw[<- h3];exact E3 (pZ h2) o1
 have HF:Hid (dG s.t s.K=some r):=(dS.1 hr).2.1;have hrl:r.length<=400:=k7 (dS.1 hr).2.1;have hal:=kD g r;have fI:Hid (aM (aJ g r++dA s.d)<=2305843009213693952):=by
  show _<=_
  have h1:=lF (j7 (xL (f:=g) (pZ (dS.1 hr).2.1)));have h2:=lF (j7 (wW s.d));rw[gJ];omega
 have r3:Hid (bY w (.slice a0 s.t.len c0) (.slice a1 s.K.length c1) (.slice a2 s.f.length c2) (.slice a3 s.d.length c3) s):=h;clear h hr;go_enter lI,kR;go_wp2_with fail;generalize (((w.alloc (.cells (sc s.t.k s.t.n (.slice a0 s.t.len c0) (.slice a1 s.K.length c1) (.slice a2 s.f.length c2) (.slice a3 s.d.length c3)) 30)).alloc (.cells #[.int .i64 0,.int .i64 0,.slice none 0 0,.slice none 0 0,.slice none 0 0,.slice none 0 0] 30)).alloc (.cells #[] 55))=W0 at*;refine (fO aI hS).mono ?_;rintro e w0 ⟨rfl,z5⟩;have q6:=bR.keep z5;have r1:=bA.keep z5;have l0:=aH e8 z5;have l7:=hL.keep z5;have o7:=hS.keep z5;clear x0 x1 x2 x3 x4 x5 bA bR e8 z5 hS hL;go_wp2_with fail;refine (sQ hf l7).mono ?_;rintro e Z ⟨rfl,z4⟩;have q5:=q6.keep z4;have r0:=r1.keep z4;have k5:=aH l0 z4;have l6:=l7.keep z4;have o5:=o7.keep z4;clear q6 r1 l0 z4 l7 o7;have m4:Hid (bY Z (.slice a0 s.t.len c0) (.slice a1 s.K.length c1) (.slice a2 s.f.length c2) (.slice a3 s.d.length c3) s):=o5;have m5:Hid (Bk Z w.heap.size (sc s.t.k s.t.n (.slice a0 s.t.len c0) (.slice a1 s.K.length c1) (.slice a2 s.f.length c2) (.slice a3 s.d.length c3)) 30):=r0;have r7:Hid (Bk Z (w.heap.size+1) #[.int .i64 0,.int .i64 0,.slice none 0 0,.slice none 0 0,.slice none 0 0,.slice none 0 0] 30):=q5;have eK:Hid (Ts Z (.slice al g.length cl) g):=l6;have r5:Hid (fV w.heap.size w Z):=k5;obtain⟨a',oK,e',-,aL,hn',v8⟩:=Bs l6;unfold maxLen at aL;obtain⟨rfl,-,rfl⟩:=mJ.slice.inj e';have HC:=(show Hid _ from v8);clear v8 e' o5 r0 q5 l6 k5;go_wp2_with fail
 go_loopw [8] (fun i wr=>∃k:Nat,k<=g.length/\i=.int .i64 k/\eQ s.f (g.take k)=true/\fV Z.heap.size Z wr) (fun i _=>g.length-(intOf i).toNat)
 case atStart=>exact⟨0,by omega,rfl,rfl,fH _ _⟩
 case round=>
  obtain⟨k,bB,rfl,l4,hb⟩:=hrel;have HA:=(show Hid (eQ s.f (g.take k)=true) from l4);clear l4
  by_cases aS:k<g.length
  ·obtain⟨q,off,A,B,rfl,hq,hr,p9,p5⟩:=HC.out k aS;have HZ:=(show Hid (g[k]?=some (A,B)) from hr);have ik:((k:Int)<(g.length:Int)):=by omega
   have T:fV Z.heap.size Z wr.drew:=hb.drew;have HX:Hid (∀V:mF,fV Z.heap.size Z V->V.cell? ⟨w.heap.size,4,none⟩=some (.slice a2 s.f.length c2)/\V.cell? ⟨q,off+k*2,none⟩=some (.int .i64 A)/\V.cell? ⟨q,off+k*2+1,none⟩=some (.int .i64 B)):=fun V R=>⟨(m5.out.keep R).aY.2.2.2.2.1,cB R p9,cB R p5⟩;have T1:Hid (Ts wr.drew (.slice a2 s.f.length c2) s.f):=(m4.out.keep T).ts;clear p9 p5 hr;cases c4:fE s.f A B
   ·exfalso
    have:=List.all_eq_true.1 o1 (A,B) (List.mem_of_getElem? HZ.out);simp only at this;rw[c4]at this;cases this
   ·have cS:Hid (eQ s.f (g.take (k+1))=true):=by
     show _=_
     have h1:=HA.out;unfold eQ at h1 ⊢;rw[gL HZ.out,List.all_append,h1];simp[c4]
    go_wp2_with fail
    go_region_held3 (fun V=>V.cell? ⟨w.heap.size,4,none⟩=some (.slice a2 s.f.length c2)/\V.cell? ⟨q,off+k*2,none⟩=some (.int .i64 A)/\V.cell? ⟨q,off+k*2+1,none⟩=some (.int .i64 B))
     (first|exact HX.out _ T|exact HX.out _ o3)
     (first
      | (go_at_call 62;refine (nQ c4 T1.out).mono ?_;rintro e w7 ⟨rfl,hO⟩;have o3:fV Z.heap.size Z w7:=aH T hO))
    all_goals
     go_wp2_with fail;go_roundw
     case rel=>exact⟨k+1,by omega,by go_num,cS.out,o3⟩
     case measure=>simp[intOf];omega
  ·obtain rfl:k=g.length:=by omega
   have ik:¬((g.length:Int)<(g.length:Int)):=by omega
   clear HA bB;have o4:=m4.out.keep hb;have m1:=m5.out.keep hb;have l9:=r7.out.keep hb;have k4:=aH r5.out hb;clear m4 m5 r7 eK r5 hb HC;obtain⟨x0,x1,x2,x3,x4,x5⟩:=m1.aY;go_wp2_with fail;refine (zI o4 b4).mono ?_;rintro e D ⟨tT,si',sf',sd',rfl,sO,w8⟩;obtain⟨Q,M,O,J,p2,q2,p3,q3,rfl,rfl,rfl,rfl⟩:=(sO.ses b4).sl;have hz3:w.heap.size+2<=wr.heap.size:=by have:=l9.lt;omega
   have hz4:=w8.size;have b5:Bk (D.alloc (.cells (sc s.t.k s.t.n (.slice Q s.t.len M) (.slice O s.K.length J) (.slice p2 s.f.length q2) (.slice p3 s.d.length q3)) 30)) D.heap.size (sc s.t.k s.t.n (.slice Q s.t.len M) (.slice O s.K.length J) (.slice p2 s.f.length q2) (.slice p3 s.d.length q3)) 30:=Bk.new _ _ rfl;have e7:fV D.heap.size D (D.alloc (.cells (sc s.t.k s.t.n (.slice Q s.t.len M) (.slice O s.K.length J) (.slice p2 s.f.length q2) (.slice p3 s.d.length q3)) 30)):=aG (fH _ _) _;have r2:Hid (lR D wr.heap.size (.slice Q s.t.len M) (.slice O s.K.length J) (.slice p2 s.f.length q2) (.slice p3 s.d.length q3) s):=sO;have z0:=aH k4 w8;have q4:=l9.keep w8;have m0:=m1.keep w8;have k3:=aH z0 e7;have q9:=m0.keep e7;have l5:=r3.out.keep k3;clear x0 x1 x2 x3 x4 x5 l9 m1 k4 o4 sO w8;obtain⟨x0,x1,x2,x3,x4,x5⟩:=q9.aY;have i4:D.heap.size+1<=(D.alloc (.cells (sc s.t.k s.t.n (.slice Q s.t.len M) (.slice O s.K.length J) (.slice p2 s.f.length q2) (.slice p3 s.d.length q3)) 30)).heap.size:=by simp
   go_wp2_with fail;clear x0 x1 x2 x3 x4 x5 q9;generalize (D.alloc (.cells (sc s.t.k s.t.n (.slice Q s.t.len M) (.slice O s.K.length J) (.slice p2 s.f.length q2) (.slice p3 s.d.length q3)) 30))=W5 at*;refine (E5 HF.out l5.kd l5.ly).mono ?_;rintro e w6 ⟨o6,rfl,i1,e6⟩;have b6:=b5.keep e6;have d3:fV D.heap.size D w6:=aH e7 e6;have k2:=aH z0 d3;have i3:D.heap.size+1<=w6.heap.size:=oO i4 e6.size;have v2:aD w6 (D.heap.size+1) o6 r:=bQ i1 i4;clear b5 e7 l5 k3 e6 i4 i1;obtain⟨am,cm,rfl,-⟩:=Rs.open (aD.rs v2 (by omega));have w3:fV w6.heap.size w6 (w6.alloc (.cells #[] 32)):=aG (fH _ _) _;have OT:aW (w6.alloc (.cells #[] 32)) (D.heap.size+1) (.slice (some ⟨w6.heap.size,0,none⟩) 0 0) []:=kP (Bk.new _ _ rfl) i3;have o8:=HL.out.keep (aH k2 w3);have b3:=w3.size;have zE:D.heap.size+1<=(w6.alloc (.cells #[] 32)).heap.size:=oO i3 b3;have bE:=b6.keep w3;have nq:Hid (∀z,(mJ.slice (some ⟨w6.heap.size,0,none⟩) 0 0).ownBlock=some z->w6.heap.size<=z):=fun z e=>by have:=lK e;omega
   go_wp2_with (at_builtin;refine D6 _ rfl _ _ rfl (D.heap.size+1) (.slice (some ⟨w6.heap.size,0,none⟩) 0 0) [] rfl OT _ g rfl o8 (by simp;omega) zE ?_;intro v6 w7 b2 j2;obtain⟨I,c6,rfl⟩:∃a c,v6=.slice a g.length c:=qJ (l:=g) b2;have v0:aW w7 (D.heap.size+1) (.slice I g.length c6) g:=b2;have d0:fV w6.heap.size w6 w7:=Below.aO w3 j2 b3 nq.out;have b7:Bk w7 D.heap.size (sc s.t.k s.t.n (.slice Q s.t.len M) (.slice O s.K.length J) (.slice p2 s.f.length q2) (.slice p3 s.d.length q3)) 30:=bE.aO j2 (fun z e=>by have:=nq.out z e;omega);obtain⟨y0,y1,y2,y3,y4,y5⟩:=b7.aY;have f4:=b7.free 4)
   have l3:fV D.heap.size D w7:=aH d3 d0;have l1:fV D.heap.size D (w7.setCell ⟨D.heap.size,4,none⟩ (.slice I g.length c6)):=l3.setCell (qA _) _;have b8:Bk (w7.setCell ⟨D.heap.size,4,none⟩ (.slice I g.length c6)) D.heap.size (sc s.t.k s.t.n (.slice Q s.t.len M) (.slice O s.K.length J) (.slice I g.length c6) (.slice p3 s.d.length q3)) 30:=b7.set 4 _;have i0:aW (w7.setCell ⟨D.heap.size,4,none⟩ (.slice I g.length c6)) (D.heap.size+1) (.slice I g.length c6) g:=dF v0 fun z e=>fD _ _ _ _ (by have:=oB v0 z e;show z≠D.heap.size;omega);have v1:aD w7 (D.heap.size+1) (.slice am r.length cm) r:=bJ v2 d0;have d5:aD (w7.setCell ⟨D.heap.size,4,none⟩ (.slice I g.length c6)) (D.heap.size+1) (.slice am r.length cm) r:=dF v1 fun z e=>fD _ _ _ _ (by have:=oB v1 z e;show z≠D.heap.size;omega);have r8:=aD.rs d5 (by omega);have k1:=aH z0 l1;have p4:=HL.out.keep k1;clear y0 y1 y2 y3 y4 y5 f4 b6 b7 l3 b2 v0 j2 OT o8 zE bE nq v1 d5 v2 d0 w3 b3 d3 k2 i3;generalize (w7.setCell ⟨D.heap.size,4,none⟩ (.slice I g.length c6))=W8 at*;refine (rH _ _ g r _ r8 p4 (by omega)).mono ?_;rintro e w9 ⟨o9,rfl,b1,e5⟩;obtain⟨H,c8,rfl,-⟩:=Rs.open (aD.rs b1 (by omega));have b9:=b8.keep e5;have l2:fV D.heap.size D w9:=aH l1 e5;have z8:=b8.lt;have u8:aW w9 (D.heap.size+1) (.slice I g.length c6) g:=bJ i0 e5;have u4:aD w9 (D.heap.size+1) (.slice H (aJ g r).length c8) (aJ g r):=bQ b1 (by omega);have m2:Bk (w9.setCell ⟨D.heap.size,5,none⟩ (.slice H (aJ g r).length c8)) D.heap.size (sc s.t.k s.t.n (.slice Q s.t.len M) (.slice O s.K.length J) (.slice I g.length c6) (.slice H (aJ g r).length c8)) 30:=b9.set 5 _;have Y:fV D.heap.size D (w9.setCell ⟨D.heap.size,5,none⟩ (.slice H (aJ g r).length c8)):=l2.setCell (qA _) _;have u0:aW (w9.setCell ⟨D.heap.size,5,none⟩ (.slice H (aJ g r).length c8)) (D.heap.size+1) (.slice I g.length c6) g:=dF u8 fun z e=>fD _ _ _ _ (by have:=oB u8 z e;show z≠D.heap.size;omega);have y6:aD (w9.setCell ⟨D.heap.size,5,none⟩ (.slice H (aJ g r).length c8)) (D.heap.size+1) (.slice H (aJ g r).length c8) (aJ g r):=dF u4 fun z e=>fD _ _ _ _ (by have:=oB u4 z e;show z≠D.heap.size;omega);have e4:=aH z0 Y;have hR:=m0.keep Y;have hQ:=q4.keep Y;have e9:Hid (lR (w9.setCell ⟨D.heap.size,5,none⟩ (.slice H (aJ g r).length c8)) wr.heap.size (.slice Q s.t.len M) (.slice O s.K.length J) (.slice p2 s.f.length q2) (.slice p3 s.d.length q3) s):=r2.out.aN (x:=w.heap.size+1) (Bx.aA Y) (by omega);obtain⟨y0,y1,y2,y3,y4,y5⟩:=b9.aY;have f5:=b9.free 5;clear r2 b1 e5 b8 l1 i0 r8 k1 p4 l2 u8 u4 q4 m0 z0 z8;go_wp2_with fail;clear y0 y1 y2 y3 y4 y5 f5 b9 Y;generalize (w9.setCell ⟨D.heap.size,5,none⟩ (.slice H (aJ g r).length c8))=F at*;have cT:Hid (∀V:mF,(∀z,w.heap.size+2<=z->z<F.heap.size->V.heap[z]?=F.heap[z]?)->bY V (.slice Q s.t.len M) (.slice O s.K.length J) (.slice I g.length c6) (.slice H (aJ g r).length c8) ⟨s.t,s.K,g,aJ g r⟩):=fun V R=>by
    have e:=(e9.out.db (V:=V) fun z h1 h2=>R z (by omega) h2).ses b4;exact⟨e.kd,e.ly,aW.ts (dF u0 fun z e=>R z (by have:=oB u0 z e;omega) (oT u0 z e)) (by show g.length<=2097152;omega),aD.rs (dF y6 fun z e=>R z (by have:=oB y6 z e;omega) (oT y6 z e)) (by show (aJ g r).length<=2097152;omega)⟩
   have HX:Hid (∀V:mF,fV F.heap.size F V->V.cell? ⟨D.heap.size,5,none⟩=some (.slice H (aJ g r).length c8)/\V.cell? ⟨w.heap.size,5,none⟩=some (.slice a3 s.d.length c3)):=fun V R=>⟨(m2.keep R).aY.2.2.2.2.2,(hR.keep R).aY.2.2.2.2.2⟩;have HQ:Hid (∀V:mF,fV F.heap.size F V->Rs V (.slice H (aJ g r).length c8) (aJ g r)/\Rs V (.slice a3 s.d.length c3) s.d):=fun V R=>⟨aD.rs (bJ y6 R) (by omega),(r3.out.keep (aH e4 R)).rs⟩;have T:fV F.heap.size F F.drew:=(fH _ _).drew;have y8:fV F.heap.size F (F.alloc (.cells #[] 55)).drew:=(aG (fH _ _) _).drew;have OB:aD (F.alloc (.cells #[] 55)).drew F.heap.size (.slice (some ⟨F.heap.size,0,none⟩) 0 0) []:=bJ (dW F rfl) (fH _ _).drew;have i5:=y8.size;have f0:Hid (∀(W:mF)(v:mJ),aD W F.heap.size v ([]++aJ g r)->aD W F.heap.size v (aJ g r)):=fun W v h=>h;have aT:=Ef s.d;have j1:(aJ g r).length+(dA s.d).length<=1000000:=by omega
   have x7:([]:List Rw).length+(aJ g r).length<=2000000:=by simp;omega
   have e3:(aJ g r).length+(dA s.d).length<=2000000:=by omega
   have e2:(aJ g r++dA s.d).length<=1000000:=by simpa using j1
   have r4:Hid (∀(W:mF)(v:mJ),aD W F.heap.size v (aJ g r++dA s.d)->Rs W v (aJ g r++dA s.d)):=fun W v h=>aD.rs h (by omega);clear e9 u0 y6
   go_region_held3 (fun V=>V.cell? ⟨D.heap.size,5,none⟩=some (.slice H (aJ g r).length c8)/\V.cell? ⟨w.heap.size,5,none⟩=some (.slice a3 s.d.length c3))
    (first|exact HX.out _ T|exact HX.out _ y8|exact HX.out _ k0|exact HX.out _ U|exact HX.out _ j5|exact HX.out _ j4|exact HX.out _ y9|exact HX.out _ j3|exact HX.out _ o2)
    (first
     | (go_at_call 78;with_reducible refine (mU _ s.d _ (HQ.out _ T).2).mono ?_;rintro e G ⟨oL,rfl,S,z1⟩;have k0:fV F.heap.size F G:=aH T z1;have U:fV F.heap.size F (G.alloc (.cells #[] 55)):=aG k0 _;have RL:Hid (∀V:mF,fV G.heap.size G V->Rs V oL (dA s.d)):=fun V R=>(aD.rs S (by omega)).keep R;have OA:aD (G.alloc (.cells #[] 55)) F.heap.size (.slice (some ⟨G.heap.size,0,none⟩) 0 0) []:=bQ (dW G rfl) k0.size;have bI:=(fH G.heap.size G);have c9:fV G.heap.size G (G.alloc (.cells #[] 55)):=aG bI _;have v7:=U.size)
     | (go_at_call 78;with_reducible refine (mU _ s.d _ (HQ.out _ y8).2).mono ?_;rintro e G ⟨oL,rfl,S,z1⟩;have j5:fV F.heap.size F G:=aH y8 z1;have RL:Hid (∀V:mF,fV G.heap.size G V->Rs V oL (dA s.d)):=fun V R=>(aD.rs S (by omega)).keep R;have OA:aD G F.heap.size (.slice (some ⟨F.heap.size,0,none⟩) 0 0) []:=bJ OB z1;have c9:=(fH G.heap.size G);have v7:=j5.size;have U:=j5)
     | (go_at_call 78;with_reducible refine (mU _ s.d _ (HQ.out _ j4).2).mono ?_;rintro e G ⟨oL,rfl,S,z1⟩;have y9:fV F.heap.size F G:=aH j4 z1;have rL:=aD.rs S (by omega);have O4:aD G F.heap.size vP (aJ g r):=bJ O3 z1;have e1:=y9.size)
     | (with_reducible refine iU _ (by rfl) _ _ (by rfl) F.heap.size (.slice (some ⟨G.heap.size,0,none⟩) 0 0) [] (by first|rfl|(simp[go_sem];done)) OA _ (aJ g r) (by first|rfl|(simp[go_sem];done)) (HQ.out _ U).1 x7 v7 ?_;intro vP wP x9 y7;have y9:fV F.heap.size F wP:=Below.aO U y7 v7 (oB OA);have O4:=f0.out _ _ x9;have rL:=RL.out _ (Below.aO c9 y7 c9.size (fun z e=>by have:=lK e;omega));have e1:=y9.size)
     | (with_reducible refine iU _ (by rfl) _ _ (by rfl) F.heap.size (.slice (some ⟨F.heap.size,0,none⟩) 0 0) [] (by first|rfl|(simp[go_sem];done)) OA _ (aJ g r) (by first|rfl|(simp[go_sem];done)) (HQ.out _ U).1 x7 v7 ?_;intro vP wP x9 y7;have y9:fV F.heap.size F wP:=Below.aO U y7 v7 (oB OA);have O4:=f0.out _ _ x9;have rL:Rs wP oL (dA s.d):=aD.rs (dF S fun z e=>y7.block z (oT S z e) (fun e'=>by have h1:=oB S z e;have h2:=lK e'.symm;omega)) (by omega);have e1:=y9.size)
     | (with_reducible refine iU _ (by rfl) _ _ (by rfl) F.heap.size (.slice (some ⟨F.heap.size,0,none⟩) 0 0) [] (by first|rfl|(simp[go_sem];done)) OB _ (aJ g r) (by first|rfl|(simp[go_sem];done)) (HQ.out _ y8).1 x7 i5 ?_;intro vP wP x9 y7;have j4:fV F.heap.size F wP:=Below.aO y8 y7 i5 (oB OB);have O3:=f0.out _ _ x9)
     | (with_reducible refine iU _ (by rfl) _ _ (by rfl) F.heap.size _ (aJ g r) (by first|rfl|(simp[go_sem];done)) O4 _ (dA s.d) (by first|rfl|(simp[go_sem];done)) rL e3 e1 ?_;intro v5 w5 hJ bD;have j3:fV F.heap.size F w5:=Below.aO y9 bD e1 (oB O4);have R5:=r4.out _ _ hJ)
     | (go_at_call 77;with_reducible refine (k9 _ (aJ g r++dA s.d) _ R5 e2 fI.out).mono ?_;rintro e wD ⟨oD,rfl,hI,bF⟩;have o2:fV F.heap.size F wD:=aH j3 bF))
   all_goals
    have v9:Hid (fV F.heap.size F wD):=o2;have hM:=j3.size;have g9:aD wD F.heap.size oD (iN s.f g r):=by
     have:=bQ hI hM;rw[HD.out]at this;exact this
    have hzE:w.heap.size+2<=F.heap.size:=by have:=m2.lt;omega
    have l8:=hQ.keep v9.out;have bT:=m2.keep v9.out;have hN:=aH e4 v9.out;clear T y8 OB i5 f0 aT j1 x7 e3 e2 r4 HX HQ;obtain⟨t0,t1,t2,t3,t4,t5⟩:=bT.aY;have sf0:=l8.free 0;have g8:=l8.set 0 (.int .i64 s.t.k);have sf1:=g8.free 1;have g7:=g8.set 1 (.int .i64 s.t.n);have sf2:=g7.free 2;have g5:=g7.set 2 (.slice Q s.t.len M);have sf3:=g5.free 3;have g4:=g5.set 3 (.slice O s.K.length J);have sf4:=g4.free 4;have g3:=g4.set 4 (.slice I g.length c6);have sf5:=g3.free 5;have o0:=g3.set 5 (.slice H (aJ g r).length c8);have sN:Bk ((((((wD.setCell ⟨w.heap.size+1,0,none⟩ (.int .i64 s.t.k)).setCell ⟨w.heap.size+1,1,none⟩ (.int .i64 s.t.n)).setCell ⟨w.heap.size+1,2,none⟩ (.slice Q s.t.len M)).setCell ⟨w.heap.size+1,3,none⟩ (.slice O s.K.length J)).setCell ⟨w.heap.size+1,4,none⟩ (.slice I g.length c6)).setCell ⟨w.heap.size+1,5,none⟩ (.slice H (aJ g r).length c8)) (w.heap.size+1) #[.int .i64 s.t.k,.int .i64 s.t.n,.slice Q s.t.len M,.slice O s.K.length J,.slice I g.length c6,.slice H (aJ g r).length c8] 30:=o0;obtain⟨tS,tE,sI,sH,sG,sE⟩:=l8.aY;obtain⟨wN,wH,vI,zF,zB,xE⟩:=sN.aY;have b0:∀z,z≠w.heap.size+1->((((((wD.setCell ⟨w.heap.size+1,0,none⟩ (.int .i64 s.t.k)).setCell ⟨w.heap.size+1,1,none⟩ (.int .i64 s.t.n)).setCell ⟨w.heap.size+1,2,none⟩ (.slice Q s.t.len M)).setCell ⟨w.heap.size+1,3,none⟩ (.slice O s.K.length J)).setCell ⟨w.heap.size+1,4,none⟩ (.slice I g.length c6)).setCell ⟨w.heap.size+1,5,none⟩ (.slice H (aJ g r).length c8)).heap[z]?=wD.heap[z]?:=fun z hz=>(((((fD _ _ _ _ hz).trans (fD _ _ _ _ hz)).trans (fD _ _ _ _ hz)).trans (fD _ _ _ _ hz)).trans (fD _ _ _ _ hz)).trans (fD _ _ _ _ hz);clear g8 g7 g5 g4 g3 o0;have zD:=v9.out.size;have zW:((((((wD.setCell ⟨w.heap.size+1,0,none⟩ (.int .i64 s.t.k)).setCell ⟨w.heap.size+1,1,none⟩ (.int .i64 s.t.n)).setCell ⟨w.heap.size+1,2,none⟩ (.slice Q s.t.len M)).setCell ⟨w.heap.size+1,3,none⟩ (.slice O s.K.length J)).setCell ⟨w.heap.size+1,4,none⟩ (.slice I g.length c6)).setCell ⟨w.heap.size+1,5,none⟩ (.slice H (aJ g r).length c8)).heap.size=wD.heap.size:=by simp
    have dL:Hid (fF ((((((wD.setCell ⟨w.heap.size+1,0,none⟩ (.int .i64 s.t.k)).setCell ⟨w.heap.size+1,1,none⟩ (.int .i64 s.t.n)).setCell ⟨w.heap.size+1,2,none⟩ (.slice Q s.t.len M)).setCell ⟨w.heap.size+1,3,none⟩ (.slice O s.K.length J)).setCell ⟨w.heap.size+1,4,none⟩ (.slice I g.length c6)).setCell ⟨w.heap.size+1,5,none⟩ (.slice H (aJ g r).length c8)) (fun z=>w.heap.size+2<=z) (.slice Q s.t.len M) (.slice O s.K.length J) (.slice I g.length c6) (.slice H (aJ g r).length c8) ⟨s.t,s.K,g,aJ g r⟩):=fun V R=>
     cT.out V fun z h1 h2=>((R z h1 (by rw[zW];omega)).trans (b0 z (by omega))).trans (v9.out.block z h2)
    have eF:Hid (Rs ((((((wD.setCell ⟨w.heap.size+1,0,none⟩ (.int .i64 s.t.k)).setCell ⟨w.heap.size+1,1,none⟩ (.int .i64 s.t.n)).setCell ⟨w.heap.size+1,2,none⟩ (.slice Q s.t.len M)).setCell ⟨w.heap.size+1,3,none⟩ (.slice O s.K.length J)).setCell ⟨w.heap.size+1,4,none⟩ (.slice I g.length c6)).setCell ⟨w.heap.size+1,5,none⟩ (.slice H (aJ g r).length c8)) oD (iN s.f g r)):=aD.rs (dF g9 fun z e=>b0 z (by have:=oB g9 z e;omega)) (by have:=AK s.f g r;omega);have eT:Hid (fV w.heap.size w ((((((wD.setCell ⟨w.heap.size+1,0,none⟩ (.int .i64 s.t.k)).setCell ⟨w.heap.size+1,1,none⟩ (.int .i64 s.t.n)).setCell ⟨w.heap.size+1,2,none⟩ (.slice Q s.t.len M)).setCell ⟨w.heap.size+1,3,none⟩ (.slice O s.K.length J)).setCell ⟨w.heap.size+1,4,none⟩ (.slice I g.length c6)).setCell ⟨w.heap.size+1,5,none⟩ (.slice H (aJ g r).length c8))):=((((((hN.setCell (by simp) _).setCell (by simp) _).setCell (by simp) _).setCell (by simp) _).setCell (by simp) _).setCell (by simp) _);clear b0 sN zW zD;go_wp2_with fail;refine lY (v:= .tuple #[sv s.t.k s.t.n (.slice Q s.t.len M) (.slice O s.K.length J) (.slice I g.length c6) (.slice H (aJ g r).length c8),oD,.bool true]) (by simp[results,iC,go_sem,wN,wH,vI,zF,zB,xE];try rfl) rfl ?_;exact⟨_,_,_,_,_,rfl,dL.out,eF.out,eT.out⟩
def Cc (s:SS)(g:LI)(b:Bool)(s':SS)(m:List Rw):Prop:=
 (b=true/\∃r,dI s=some r/\cC g=true/\eQ s.f g=true/\s'=⟨s.t,s.K,g,aJ g r⟩/\m=iN s.f g r)\/(b=false/\pX s g=none/\s'=zeroS/\m=[])
theorem EI {s s':SS}{m:List Rw}(h:pX s g=some (s',m)):Cc s g true s' m:=Or.inl ⟨rfl,mX.1 h⟩
theorem Km {s:SS}(h:pX s g=none):Cc s g false zeroS []:=Or.inr ⟨rfl,h,rfl,rfl⟩
theorem EU {s s':SS}{m:List Rw}(H:Cc s g b s' m)(x4:g.length<=1000)(h:bY w sp si sf sd s)(hl:Ts w gv g):
  nU gY 23 #[sv s.t.k s.t.n sp si sf sd,gv] w fun e D=>∃z0 z1 z2 z3 z4 Z Y U T S,e=.returned (.tuple #[sv s'.t.k s'.t.n (.slice z0 s'.t.len z1) (.slice z2 s'.K.length z3) (.slice z4 s'.f.length Z) (.slice Y s'.d.length U),.slice T m.length S,.bool b])/\bY D (.slice z0 s'.t.len z1) (.slice z2 s'.K.length z3) (.slice z4 s'.f.length Z) (.slice Y s'.d.length U) s'/\Rs D (.slice T m.length S) m/\fV w.heap.size w D:=by
 rcases H with⟨rfl,r,hr,hf,x5,rfl,rfl⟩|⟨rfl,hn,rfl,rfl⟩
 ·refine (uI hr hf x5 x4 h hl).mono ?_;rintro e w1 ⟨sp,si,sf,sd,mv,rfl,G,B,F⟩;have a:=G.ses;obtain⟨R,I,Q,c1,O,c2,M,c3,rfl,rfl,rfl,rfl⟩:=a.sl;obtain⟨J,c4,rfl,-⟩:=Rs.open B;exact⟨R,I,Q,c1,O,c2,M,c3,J,c4,rfl,a,B,F⟩
 ·refine (wG hn h hl).mono ?_;rintro e w1 ⟨sp,si,sf,sd,mv,rfl,G,B,F⟩;have a:=G.ses;obtain⟨R,I,Q,c1,O,c2,M,c3,rfl,rfl,rfl,rfl⟩:=a.sl;obtain⟨J,c4,rfl,-⟩:=Rs.open B;exact⟨R,I,Q,c1,O,c2,M,c3,J,c4,rfl,a,B,F⟩
theorem AE (G:oJ){s s':SS}{m:List Rw}(H:Cc s g b s' m)(x3:g.length<=1000)(B:s.t.sm)(h:bY w sp si sf sd s)(hl:Ts w gv g)(hg:w.cell? ⟨0,0,none⟩=some (iB G)):
  nU gY 24 #[sv s.t.k s.t.n sp si sf sd,gv] w fun e D=>∃z0 z1 z2 z3 Z Y U T S R,e=.returned (.tuple #[sv s'.t.k s'.t.n (.slice z0 s'.t.len z1) (.slice z2 s'.K.length z3) (.slice Z s'.f.length Y) (.slice U s'.d.length T),.slice S m.length R,.bool b])/\bY D (.slice z0 s'.t.len z1) (.slice z2 s'.K.length z3) (.slice Z s'.f.length Y) (.slice U s'.d.length T) s'/\Rs D (.slice S m.length R) m/\fV w.heap.size w D:=by
 rcases H with⟨rfl,r,hr,hf,x4,rfl,rfl⟩|⟨rfl,hn,rfl,rfl⟩
 ·refine (uD G hr hf x4 x3 B h hl hg).mono ?_;rintro e w1 ⟨sp,si,sf,sd,mv,rfl,hN,hO,F⟩;have a:=hN.ses;have hR:Rs w1 mv (iN s.f g r):=aD.rs hO (by have:=AK s.f g r;have:=k7 (dS.1 hr).2.1;omega);obtain⟨Q,I,O,c1,M,c2,J,c3,rfl,rfl,rfl,rfl⟩:=a.sl;obtain⟨a4,c4,rfl,-⟩:=Rs.open hR;exact⟨Q,I,O,c1,M,c2,J,c3,a4,c4,rfl,a,hR,F⟩
 ·refine (Cs G hn B h hl hg).mono ?_;rintro e w1 ⟨sp,si,sf,sd,rfl,a,F⟩;obtain⟨Q,I,O,c1,M,c2,J,c3,rfl,rfl,rfl,rfl⟩:=a.sl;exact⟨Q,I,O,c1,M,c2,J,c3,none,0,rfl,a,aD.rs (oN fX 5 55 _ 0) (by simp),F⟩
theorem MR (J:oJ){s s2:SS}{D:List Rw}(H:pX s g=some (s2,D))(G:g.length<=1000)(F:s.t.sm)(h:bY w sp si sf sd s)(hl:Ts w gv g)(hg:w.cell? ⟨0,0,none⟩=some (iB J)):
  nU gY 24 #[sv s.t.k s.t.n sp si sf sd,gv] w fun e a=>∃sp si sf sd B,e=.returned (.tuple #[sv s2.t.k s2.t.n sp si sf sd,B,.bool true])/\fF a (fun z=>w.heap.size+2<=z) sp si sf sd s2/\aD a (w.heap.size+2) B D/\fV w.heap.size w a:=by
 obtain⟨r,hr,hf,I,rfl,rfl⟩:=mX.1 H;exact uD J hr hf I G F h hl hg
theorem Jt {s s1:SS}{f:LI}{H:List Rw}(h:pX s f=some (s1,H)):∃s2 G F,pX s (cK (f++eO s.f g))=some (s2,G)/\pX s2 f=some (s1,F)/\iY G F=H/\s2.t=s.t/\(cK (f++eO s.f g)).length<=1000:=by
 obtain⟨r,hr,hf,J,rfl,rfl⟩:=mX.1 h;obtain⟨I,hfl,hd⟩:=dS.1 hr;have a:cC (rS s.f f g)=true:=yK _ _ _;have D:eQ s.f (rS s.f f g)=true:=NT I hf J;have B:eQ (rS s.f f g) f=true:=NF hf;have M:dI ⟨s.t,s.K,rS s.f f g,aJ (rS s.f f g) r⟩=some r:=dS.2 ⟨a,hfl,rfl⟩;refine⟨_,_,_,mX.2 ⟨r,hr,a,D,rfl,rfl⟩,mX.2 ⟨r,M,hf,B,rfl,rfl⟩,Kw (pZ hfl) D B,rfl,?_⟩;have:=lB a;unfold rS at this;omega
end Go.Proofs.YtbdpcngcbnoioaaGreatDoor
