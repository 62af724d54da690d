import Derived.Test.YtbdpcngcbnoioaaGreatDoorGqg
set_option maxRecDepth 100000
set_option maxHeartbeats 32000000
namespace Go.Proofs.YtbdpcngcbnoioaaGreatDoor
open Go.RowKit Go.Shelf
open Go.RowKit.Below renaming heap_setCell->fM,refl->fQ
open _root_.Array renaming getElem?_eq_some_iff->gD,mk->gM
open Go renaming Value->gQ,World->gX,mem_ready->iM,bodyPost_ret->iP
open Go.RowKit renaming Below->jB
open _root_.Nat renaming le_refl->jO,le_trans->mO
open Go.Region renaming binds->nA
variable {X Y:Int}{u:gQ}{w:gX}
attribute [local go_sem ↓] Go.wp_at_zero Go.wp_at_succ
theorem P7 {N:Nat}(a:N<=w.heap.size):bW (w.alloc (.cells #[.int .i64 X,.int .i64 Y] 32)) N (.slice (some ⟨w.heap.size,0,none⟩) 1 1) [(X,Y)]:=
 AE (F:=[(X,Y)]) (Bk.new _ _ rfl) (fun i hi=>by obtain rfl:i=0:=(by simpa using hi);exact⟨rfl,rfl⟩) rfl (by simp) (by unfold maxLen;omega) a
theorem E6 {s:SS}{f:LI}{a A B D J:gQ}(hd:Aq s)(h:gE w a A B D s)(hf:Ts w J f)(hl:f.length<=1000):
  Calls Tryz.prog 23 #[sv s.t.k s.t.n a A B D,J] w fun e I=>∃x m o:gQ,e=.returned (.tuple #[x,m,o])/\nS Aq I (fun z=>w.heap.size+2<=z) x o/\jB w.heap.size w I:=by
 rcases hn:FJ s f with _|⟨s',m⟩
 ·refine (xT hn h hf).mono ?_;rintro e w1 ⟨a,A,B,D,M,rfl,H,O,G⟩;exact⟨_,_,_,rfl,⟨zeroS,a,A,B,D,false,rfl,rfl,(fun e=>by cases e),H⟩,G⟩
 ·obtain⟨r,h1,h2,h3,rfl,rfl⟩:=FL.1 hn;refine (vW h1 h2 h3 hl h hf).mono ?_;rintro e w1 ⟨a,A,B,D,M,rfl,H,O,G⟩;exact⟨_,_,_,rfl,⟨⟨s.t,s.K,f,aV f r⟩,a,A,B,D,true,rfl,rfl,fun _=>⟨hd.sm,hd.pok,hd.abs,by have:=oS h2;show f.length<=9;omega,hd.two⟩,H⟩,G⟩
structure xM (g:Nat)(v:gQ)(n:Nat)(w wr:gX)(b:Nat)(p:Int)(s:SS)(sp si sf sd:gQ):Prop where
 box:Bk wr b (sc s.t.k s.t.n sp si sf sd) 30
 res:Bk wr w.heap.size #[.int .i64 0,.int .i64 0,.slice none 0 0,.slice none 0 0,.slice none 0 0,.slice none 0 0] 30
 rs2:Bk wr (w.heap.size+1) #[.int .i64 0,.int .i64 0] 32
 ses:jG wr (fun z=>g<z/\z≠b) sp si sf sd s
 rd:Rd g wr g v n p
 bl:jB w.heap.size w wr
 hg:w.heap.size+1<g
 hb:g<b
theorem xM.aN {g:Nat}{v:gQ}{n:Nat}{wr a:gX}{b:Nat}{p H:Int}{s:SS}{A B D G:gQ}(h:xM g v n w wr b p s A B D G)(hx:Bx g wr a)(hr:Rd g a g v n H):xM g v n w a b H s A B D G:=
 ⟨h.box.aN hx (by have:=h.hb;omega),h.res.aN hx (by have:=h.hg;omega),h.rs2.aN hx (by have:=h.hg;omega),h.ses.aN hx (fun z I=>by omega),hr,hx.below h.bl h.bl.size (by have:=h.hg;omega),h.hg,h.hb⟩
def Ah (g r:Nat)(W0 W:gX):Prop:=W0.heap.size<=W.heap.size/\∀z,z≠g->z≠r->z≠r+1->z<W0.heap.size->W.heap[z]?=W0.heap[z]?
structure tQ (g r b tb:Nat)(v:gQ)(n:Nat)(p0:Int)(SV:gQ)(c:Array gQ)(x y:Int)(L:Array Bool)(W:gX)(t31 t32:gQ):Prop where
 s0:L.getD 0 false=true->t31=SV
 s1:L.getD 1 false=true->t32=tv x y
 s2:L.getD 2 false=true->Bk W r c 30
 s3:L.getD 3 false=true->∃X Y:Int,t32=tv X Y/\Bk W (r+1) #[.int .i64 X,.int .i64 Y] 32
 c:L.getD 3 false=true->L.getD 1 false=true
 z6:L.getD 2 true=false->Bk W r #[.int .i64 0,.int .i64 0,.slice none 0 0,.slice none 0 0,.slice none 0 0,.slice none 0 0] 30
 z2:L.getD 3 true=false->Bk W (r+1) #[.int .i64 0,.int .i64 0] 32
section
variable {g r b tb:Nat}{v:gQ}{n:Nat}{p0:Int}{SV:gQ}{c:Array gQ}{x y:Int}{L:Array Bool}{W W':gX}{t31 t32:gQ}
theorem tQ.aw (h:tQ g r b tb v n p0 SV c x y L W t31 t32)(a:u=SV):tQ g r b tb v n p0 SV c x y (L.setIfInBounds 0 true) W u t32 where
 s0:=fun _=>a
 s1:=fun e=>h.s1 (gS e)
 s2:=fun e=>h.s2 (gS e)
 s3:=fun e=>h.s3 (gS e)
 c:=fun e=>getD_upV (h.c (gS e))
 z6:=fun e=>h.z6 (gT e)
 z2:=fun e=>h.z2 (gT e)
theorem tQ.au (a:L.getD 1 true=false)(h:tQ g r b tb v n p0 SV c x y L W t31 t32)(s:u=tv x y):tQ g r b tb v n p0 SV c x y (L.setIfInBounds 1 true) W t31 u where
 s0:=fun e=>h.s0 (gS e)
 s1:=fun _=>s
 s2:=fun e=>h.s2 (gS e)
 s3:=fun e=>(gN (h.c (gS e)) a).elim
 c:=fun e=>getD_upV (h.c (gS e))
 z6:=fun e=>h.z6 (gT e)
 z2:=fun e=>h.z2 (gT e)
theorem tQ.ar (D:L.size=4)(h:tQ g r b tb v n p0 SV c x y L W t31 t32)(hx:∀z,z≠r->W'.heap[z]?=W.heap[z]?)(a:Bk W' r c 30):tQ g r b tb v n p0 SV c x y (L.setIfInBounds 2 true) W' t31 t32 where
 s0:=fun e=>h.s0 (gS e)
 s1:=fun e=>h.s1 (gS e)
 s2:=fun _=>a
 s3:=fun e=>by obtain⟨X,Y,A,B⟩:=h.s3 (gS e);exact⟨X,Y,A,by unfold Bk;rw[hx _ (by omega)];exact B⟩
 c:=fun e=>getD_upV (h.c (gS e))
 z6:=fun s=>absurd s (by rw[gH (by omega)];decide)
 z2:=fun e=>by unfold Bk;rw[hx _ (by omega)];exact h.z2 (gT e)
theorem tQ.aq (s:L.getD 1 false=true)(D:L.size=4)(h:tQ g r b tb v n p0 SV c x y L W t31 t32)(A:t32=tv X Y)(hx:∀z,z≠r+1->W'.heap[z]?=W.heap[z]?)(a:Bk W' (r+1) #[.int .i64 X,.int .i64 Y] 32):tQ g r b tb v n p0 SV c x y (L.setIfInBounds 3 true) W' t31 t32 where
 s0:=fun e=>h.s0 (gS e)
 s1:=fun e=>h.s1 (gS e)
 s2:=fun e=>by unfold Bk;rw[hx _ (by omega)];exact h.s2 (gS e)
 s3:=fun _=>⟨X,Y,A,a⟩
 c:=fun _=>getD_upV s
 z6:=fun e=>by unfold Bk;rw[hx _ (by omega)];exact h.z6 (gT e)
 z2:=fun B=>absurd B (by rw[gH (by omega)];decide)
def M6 (g r b tb:Nat)(v:gQ)(n:Nat)(p0:Int)(SV:gQ)(c:Array gQ)(x y:Int)(w W0:gX)(L:Array Bool)(a:Act)(W:gX):Prop:=
 L.size=4/\Ah g r W0 W/\jB w.heap.size w W/\∃z0 z1 z4 z6 z8 z9 z10 z11 z12 z13 z14 z15 z16 z17 z18 z19 z20 z21 z22 z23 z24 z25 z26 z27 z28 z29 z30 z33 z34 z35 z36 z37 z38 z39 z40 z41 z42 z43 z44 z45 z46 z47 z48 z49 z50 z51 z52 z53 t31 t32:gQ,
  a={ tmps:=#[z0,z1,.pointer (some ⟨r,0,none⟩),.pointer (some ⟨r+1,0,none⟩),z4,.pointer (some ⟨b,0,none⟩),z6,.pointer (some ⟨tb,0,none⟩),z8,z9,z10,z11,z12,z13,z14,z15,z16,z17,z18,z19,z20,z21,z22,z23,z24,z25,z26,z27,z28,z29,z30,t31,t32,z33,z34,z35,z36,z37,z38,z39,z40,z41,z42,z43,z44,z45,z46,z47,z48,z49,z50,z51,z52,z53],defers:=[] }/\tQ g r b tb v n p0 SV c x y L W t31 t32
theorem tR {W0:gX}{i:Nat}{z0 z1 z4 z6 z8 z9 v1 v0 z7 z5 z3 y8 y7 y6 y5 y4 y3 y2 y1 y0 x9 x8 x7 x6 x5 x4 x3 x2 x1 x0 h9 Z V U T R Q O M J I H G D B A s a:gQ}(v2:L.size=4)(hx:Ah g r W0 W')(hb:jB w.heap.size w W')(S:tQ g r b tb v n p0 SV c x y (L.setIfInBounds i true) W' t31 t32):
  M6 g r b tb v n p0 SV c x y w W0 (L.setIfInBounds i true) { tmps:=#[z0,z1,.pointer (some ⟨r,0,none⟩),.pointer (some ⟨r+1,0,none⟩),z4,.pointer (some ⟨b,0,none⟩),z6,.pointer (some ⟨tb,0,none⟩),z8,z9,v1,v0,z7,z5,z3,y8,y7,y6,y5,y4,y3,y2,y1,y0,x9,x8,x7,x6,x5,x4,x3,t31,t32,x2,x1,x0,h9,Z,V,U,T,R,Q,O,M,J,I,H,G,D,B,A,s,a],defers:=[] } W':=
 ⟨by simp[v2],hx,hb,_,_,_,_,_,_,_,_,_,_,_,_,_,_,_,_,_,_,_,_,_,_,_,_,_,_,_,_,_,_,_,_,_,_,_,_,_,_,_,_,_,_,_,_,_,_,_,_,_,_,rfl,S⟩
end
structure qU (g r b tb:Nat)(v:gQ)(n:Nat)(p0:Int)(SV:gQ)(c:Array gQ)(x y:Int)(L:Array Bool)(W:gX)(t51 t52 t53:gQ):Prop where
 s0:L.getD 0 false=true->t51=SV
 s1:L.getD 1 false=true->t52=.pointer (some ⟨g,0,none⟩)
 s2:L.getD 2 false=true->∃X Y:Int,t53=tv X Y
 s3:L.getD 3 false=true->Bk W r c 30
 s4:L.getD 4 false=true->∃X Y:Int,t53=tv X Y/\Bk W (r+1) #[.int .i64 X,.int .i64 Y] 32
 c:L.getD 4 false=true->L.getD 2 false=true
 z6:L.getD 3 true=false->Bk W r #[.int .i64 0,.int .i64 0,.slice none 0 0,.slice none 0 0,.slice none 0 0,.slice none 0 0] 30
 z2:L.getD 4 true=false->Bk W (r+1) #[.int .i64 0,.int .i64 0] 32
 rd:L.getD 2 true=false->Rd g W g v n p0
section
variable {g r b tb:Nat}{v:gQ}{n:Nat}{p0:Int}{SV:gQ}{c:Array gQ}{x y:Int}{L:Array Bool}{W W':gX}{t51 t52 t53:gQ}
theorem qU.aw (h:qU g r b tb v n p0 SV c x y L W t51 t52 t53)(a:u=SV):qU g r b tb v n p0 SV c x y (L.setIfInBounds 0 true) W u t52 t53 where
 s0:=fun _=>a
 s1:=fun e=>h.s1 (gS e)
 s2:=fun e=>h.s2 (gS e)
 s3:=fun e=>h.s3 (gS e)
 s4:=fun e=>h.s4 (gS e)
 c:=fun e=>getD_upV (h.c (gS e))
 z6:=fun e=>h.z6 (gT e)
 z2:=fun e=>h.z2 (gT e)
 rd:=fun e=>h.rd (gT e)
theorem qU.au (h:qU g r b tb v n p0 SV c x y L W t51 t52 t53)(a:u=.pointer (some ⟨g,0,none⟩)):qU g r b tb v n p0 SV c x y (L.setIfInBounds 1 true) W t51 u t53 where
 s0:=fun e=>h.s0 (gS e)
 s1:=fun _=>a
 s2:=fun e=>h.s2 (gS e)
 s3:=fun e=>h.s3 (gS e)
 s4:=fun e=>h.s4 (gS e)
 c:=fun e=>getD_upV (h.c (gS e))
 z6:=fun e=>h.z6 (gT e)
 z2:=fun e=>h.z2 (gT e)
 rd:=fun e=>h.rd (gT e)
theorem qU.ar (D:L.size=5)(a:L.getD 2 true=false)(B:r+1<g)(h:qU g r b tb v n p0 SV c x y L W t51 t52 t53)(hx:Bx g W W')(s:∃X Y:Int,u=tv X Y):qU g r b tb v n p0 SV c x y (L.setIfInBounds 2 true) W' t51 t52 u where
 s0:=fun e=>h.s0 (gS e)
 s1:=fun e=>h.s1 (gS e)
 s2:=fun _=>s
 s3:=fun e=>(h.s3 (gS e)).aN hx (by omega)
 s4:=fun e=>(gN (h.c (gS e)) a).elim
 c:=fun e=>getD_upV (h.c (gS e))
 z6:=fun e=>(h.z6 (gT e)).aN hx (by omega)
 z2:=fun e=>(h.z2 (gT e)).aN hx (by omega)
 rd:=fun A=>absurd A (by rw[gH (by omega)];decide)
theorem qU.aq (hr:L.getD 2 false=true)(D:L.size=5)(h:qU g r b tb v n p0 SV c x y L W t51 t52 t53)(hx:∀z,z≠r->W'.heap[z]?=W.heap[z]?)(a:Bk W' r c 30):qU g r b tb v n p0 SV c x y (L.setIfInBounds 3 true) W' t51 t52 t53 where
 s0:=fun e=>h.s0 (gS e)
 s1:=fun e=>h.s1 (gS e)
 s2:=fun e=>h.s2 (gS e)
 s3:=fun _=>a
 s4:=fun e=>by obtain⟨X,Y,A,B⟩:=h.s4 (gS e);exact⟨X,Y,A,by unfold Bk;rw[hx _ (by omega)];exact B⟩
 c:=fun e=>getD_upV (h.c (gS e))
 z6:=fun s=>absurd s (by rw[gH (by omega)];decide)
 z2:=fun e=>by unfold Bk;rw[hx _ (by omega)];exact h.z2 (gT e)
 rd:=fun e=>(gN hr (gT e)).elim
theorem qU.be (a:L.getD 2 false=true)(D:L.size=5)(h:qU g r b tb v n p0 SV c x y L W t51 t52 t53)(A:t53=tv X Y)(hx:∀z,z≠r+1->W'.heap[z]?=W.heap[z]?)(s:Bk W' (r+1) #[.int .i64 X,.int .i64 Y] 32):qU g r b tb v n p0 SV c x y (L.setIfInBounds 4 true) W' t51 t52 t53 where
 s0:=fun e=>h.s0 (gS e)
 s1:=fun e=>h.s1 (gS e)
 s2:=fun e=>h.s2 (gS e)
 s3:=fun e=>by unfold Bk;rw[hx _ (by omega)];exact h.s3 (gS e)
 s4:=fun _=>⟨X,Y,A,s⟩
 c:=fun _=>getD_upV a
 z6:=fun e=>by unfold Bk;rw[hx _ (by omega)];exact h.z6 (gT e)
 z2:=fun B=>absurd B (by rw[gH (by omega)];decide)
 rd:=fun e=>(gN a (gT e)).elim
def EH (g r b tb:Nat)(v:gQ)(n:Nat)(p0:Int)(SV:gQ)(c:Array gQ)(x y:Int)(w W0:gX)(L:Array Bool)(a:Act)(W:gX):Prop:=
 L.size=5/\Ah g r W0 W/\jB w.heap.size w W/\∃z0 z1 z6 z7 z8 z9 z10 z11 z12 z13 z14 z15 z16 z17 z18 z19 z20 z21 z22 z23 z24 z25 z26 z27 z28 z29 z30 z31 z32 z33 z34 z35 z36 z37 z38 z39 z40 z41 z42 z43 z44 z45 z46 z47 z48 z49 z50 t51 t52 t53:gQ,
  a={ tmps:=#[z0,z1,.pointer (some ⟨r,0,none⟩),.pointer (some ⟨r+1,0,none⟩),.pointer (some ⟨g,0,none⟩),.pointer (some ⟨b,0,none⟩),z6,z7,z8,z9,z10,z11,z12,z13,z14,z15,z16,z17,z18,z19,z20,z21,z22,z23,z24,z25,z26,z27,z28,z29,z30,z31,z32,z33,z34,z35,z36,z37,z38,z39,z40,z41,z42,z43,z44,z45,z46,z47,z48,z49,z50,t51,t52,t53],defers:=[] }/\qU g r b tb v n p0 SV c x y L W t51 t52 t53
theorem k6 {W0:gX}{i:Nat}{z0 z1 z6 z7 z8 z9 v0 z5 z4 z3 y8 y7 y6 y5 y4 y3 y2 y1 y0 x9 x8 x7 x6 x5 x4 x3 x2 x1 x0 h9 Z V U T R Q O M J I H G D B A s a:gQ}(v1:L.size=5)(hx:Ah g r W0 W')(hb:jB w.heap.size w W')(S:qU g r b tb v n p0 SV c x y (L.setIfInBounds i true) W' t51 t52 t53):
  EH g r b tb v n p0 SV c x y w W0 (L.setIfInBounds i true) { tmps:=#[z0,z1,.pointer (some ⟨r,0,none⟩),.pointer (some ⟨r+1,0,none⟩),.pointer (some ⟨g,0,none⟩),.pointer (some ⟨b,0,none⟩),z6,z7,z8,z9,v0,z5,z4,z3,y8,y7,y6,y5,y4,y3,y2,y1,y0,x9,x8,x7,x6,x5,x4,x3,x2,x1,x0,h9,Z,V,U,T,R,Q,O,M,J,I,H,G,D,B,A,s,a,t51,t52,t53],defers:=[] } W':=
 ⟨by simp[v1],hx,hb,_,_,_,_,_,_,_,_,_,_,_,_,_,_,_,_,_,_,_,_,_,_,_,_,_,_,_,_,_,_,_,_,_,_,_,_,_,_,_,_,_,_,_,_,_,_,_,_,_,_,rfl,S⟩
end
theorem Bw (a:Option Addr)(len bE:Nat)(w:gX)(h:Src w (.slice a len bE) len):
  Calls Tryz.prog 14 #[.slice a len bE] w fun e w'=>∃(s:SS)(sp si sf sd:gQ)(x y:Int),e=.returned (.tuple #[sv s.t.k s.t.n sp si sf sd,tv x y])/\Aq s/\gE w' sp si sf sd s/\jB w.heap.size w w':=by
 have bD:jB w.heap.size w ((w.alloc (.cells #[.int .i64 0,.int .i64 0,.slice none 0 0,.slice none 0 0,.slice none 0 0,.slice none 0 0] 30)).alloc (.cells #[.int .i64 0,.int .i64 0] 32)):=aH (aH (fQ _ _) _) _;have br:Bk ((w.alloc (.cells #[.int .i64 0,.int .i64 0,.slice none 0 0,.slice none 0 0,.slice none 0 0,.slice none 0 0] 30)).alloc (.cells #[.int .i64 0,.int .i64 0] 32)) w.heap.size #[.int .i64 0,.int .i64 0,.slice none 0 0,.slice none 0 0,.slice none 0 0,.slice none 0 0] 30:=Bk.alloc (Bk.new _ _ rfl) _;have bs:Bk ((w.alloc (.cells #[.int .i64 0,.int .i64 0,.slice none 0 0,.slice none 0 0,.slice none 0 0,.slice none 0 0] 30)).alloc (.cells #[.int .i64 0,.int .i64 0] 32)) (w.heap.size+1) #[.int .i64 0,.int .i64 0] 32:=Bk.new _ _ (by simp);have cS:((w.alloc (.cells #[.int .i64 0,.int .i64 0,.slice none 0 0,.slice none 0 0,.slice none 0 0,.slice none 0 0] 30)).alloc (.cells #[.int .i64 0,.int .i64 0] 32)).heap.size=w.heap.size+2:=by simp
 have HS:=(show Hid _ from h.keep bD);clear h;go_enter Tryz.func14,Tryz.ntmps14;go_wp2_with fail;refine (Ix a len bE _ HS.out).mono ?_;rintro e w1 ⟨he,⟨v,n,p5⟩,v7⟩;have nK:=br.keep v7;have nD:=bs.keep v7;have hH:=aG bD v7;rw[cS]at he p5;obtain⟨g,gK⟩:∃g,g=w.heap.size+2:=⟨_,rfl⟩;rw[<- gK]at he p5;have hg:w.heap.size+1<g:=by omega
 have hrl:=p5.blk.lt;subst he;clear br bs bD HS v7 cS gK;go_wp2_with fail;refine (Gd p5 (by omega) (by omega)).mono ?_;rintro e w2 ⟨s,sp,si,sf,sd,rfl,hD,hN,⟨p2,fI,aL,eT⟩,p4⟩;obtain⟨J,G,I,c1,D,c2,H,c3,rfl,rfl,rfl,rfl⟩:=hN.ses.sl;have hz2:=p4.size;have bA:=p4.below hH hH.size (by omega);have hP:Hid (xM g v n w (w2.alloc (.cells (sc s.t.k s.t.n (.slice J s.t.len G) (.slice I s.K.length c1) (.slice D s.f.length c2) (.slice H s.d.length c3)) 30)) w2.heap.size p2 s (.slice J s.t.len G) (.slice I s.K.length c1) (.slice D s.f.length c2) (.slice H s.d.length c3)):=
  ⟨Bk.new _ _ rfl,(nK.aN p4 (by omega)).alloc _,(nD.aN p4 (by omega)).alloc _,hN.move (fun z M hl=>⟨⟨by omega,by omega⟩,(aH (fQ _ _) _:jB w2.heap.size w2 (w2.alloc (.cells (sc s.t.k s.t.n (.slice J s.t.len G) (.slice I s.K.length c1) (.slice D s.f.length c2) (.slice H s.d.length c3)) 30))).block z hl⟩) (by simp),eT.aa (aH (fQ _ _) _),aG bA (aH (fQ _ _) _),hg,by omega⟩
 clear p5 nK nD hH p4 eT hN bA;go_wp2_with fail;generalize (w2.alloc (.cells (sc s.t.k s.t.n (.slice J s.t.len G) (.slice I s.K.length c1) (.slice D s.f.length c2) (.slice H s.d.length c3)) 30))=w3 at*;obtain⟨b,kI⟩:∃b,b=w2.heap.size:=⟨_,rfl⟩;rw[<- kI]at hP ⊢;have i0:g≠b:=by have:=hP.out.hb;omega
 clear kI
 go_loopw [6] (fun i wr=>∃(j:Nat)(p':Int)(s:SS)(sp si sf sd:gQ),j<=5/\i=.int .i64 j/\xM g v n w wr b p' s sp si sf sd/\Aq s/\0<=p'/\p'<=6000+20*j) (fun i _=>5-(intOf i).toNat)
 case atStart=>exact⟨0,p2,s,_,_,_,_,by omega,rfl,hP.out,hD,by omega,by omega⟩
 case round=>
  clear hP hD fI aL hrl hz2;obtain⟨j,p',s,sp,si,sf,sd,hj5,rfl,hI,hd,hpp,hpq⟩:=hrel;have HD:Hid (Aq s):=hd;obtain⟨J,G,I,c1,D,c2,H,c3,rfl,rfl,rfl,rfl⟩:=hI.ses.ses.sl;clear hd
  by_cases hj:j<5
  ·have hj':(j:Int)<5:=by omega
   go_wp2_with fail;refine (pA hI.rd (by omega) (by omega) _ (by omega) (by omega)).mono ?_;rintro e w4 ⟨k,rfl,q2,p9,eK,dL⟩;have O:Hid (xM g v n w w4 b (p'+1) s (.slice J s.t.len G) (.slice I s.K.length c1) (.slice D s.f.length c2) (.slice H s.d.length c3)):=hI.aN dL eK;clear hI eK dL
   by_cases hk:0<k
   ·go_wp2_with fail;refine (qQ O.out.rd (by omega) (by omega)).mono ?_;rintro e w5 ⟨x,y,rfl,_,_,_,_,⟨p2,fI,aL,hM⟩,cT⟩;have hO:=O.out.aN cT hM;have a8:Hid (xM g v n w (w5.alloc (.cells #[.int .i64 x,.int .i64 y] 32)) b p2 s (.slice J s.t.len G) (.slice I s.K.length c1) (.slice D s.f.length c2) (.slice H s.d.length c3)):=hO.aN ((Bx.refl _ _).alloc _) (hM.aa (aH (fQ _ _) _));have bT:Bk (w5.alloc (.cells #[.int .i64 x,.int .i64 y] 32)) w5.heap.size #[.int .i64 x,.int .i64 y] 32:=Bk.new _ _ rfl;obtain⟨x0,x1,x2,x3,x4,x5⟩:=a8.out.box.ae;obtain⟨u0,u1,_,_⟩:=bT.two;have i4:Hid (Ts (w5.alloc (.cells #[.int .i64 x,.int .i64 y] 32)) (.slice D s.f.length c2) s.f):=a8.out.ses.ses.ts;have hgT:=hM.blk.lt;have hbT:=hO.box.lt;have hrT:=hO.bl.size;clear O hO hM cT;go_wp2_with fail;clear x0 x1 x2 x3 x4 x5 u0 u1;generalize (w5.alloc (.cells #[.int .i64 x,.int .i64 y] 32))=w6 at*;obtain⟨tb,eF⟩:∃tb,tb=w5.heap.size:=⟨_,rfl⟩;rw[<- eF]at bT ⊢;have htg:tb≠g:=by omega
    have hnb:tb≠b:=by omega
    have fL:tb≠w.heap.size/\tb≠w.heap.size+1:=by have:=a8.out.hg;omega
    clear eF hgT hbT hrT;cases hc:fY s.f x y
    ·refine (jY hc i4.out).mono ?_;rintro e W0 ⟨rfl,b6⟩;have d4:Hid (xM g v n w W0 b p2 s (.slice J s.t.len G) (.slice I s.K.length c1) (.slice D s.f.length c2) (.slice H s.d.length c3)):=a8.out.aN (Bx.aD b6) (a8.out.rd.aa b6);have bF:=bT.keep b6;have hT7:=bF.lt;have HT2:Hid (∀V:gX,Ah g (w.heap.size) W0 V->Bk V tb #[.int .i64 x,.int .i64 y] 32):=fun V hV=>by unfold Bk;rw[hV.2 _ htg fL.1 fL.2 hT7];exact bF
     clear a8 i4 b6 bT bF;go_wp2_with fail;have q3:=d4.out.hg;have aT:=d4.out.hb;have g4:=d4.out.box.lt;have b9:Hid (∀V:gX,Ah g (w.heap.size) W0 V->Bk V b (sc s.t.k s.t.n (.slice J s.t.len G) (.slice I s.K.length c1) (.slice D s.f.length c2) (.slice H s.d.length c3)) 30):=fun V hV=>by unfold Bk;rw[hV.2 _ (by omega) (by omega) (by omega) g4];exact d4.out.box
     have c4:Hid (∀V:gX,Ah g (w.heap.size) W0 V->gE V (.slice J s.t.len G) (.slice I s.K.length c1) (.slice D s.f.length c2) (.slice H s.d.length c3) s):=fun V hV=>d4.out.ses V fun z M hl=>hV.2 z (by omega) (by omega) (by omega) hl;refine iW (by kernel_rfl) (M6 g (w.heap.size) b tb v n (p2) (sv s.t.k s.t.n (.slice J s.t.len G) (.slice I s.K.length c1) (.slice D s.f.length c2) (.slice H s.d.length c3)) #[.int .i64 s.t.k,.int .i64 s.t.n,.slice J s.t.len G,.slice I s.K.length c1,.slice D s.f.length c2,.slice H s.d.length c3] x y w W0) ?hg ?hs ?h0 ?hstep ?hend
     case hg=>
      intro i o ho;have hi:i<4:=(gD.1 ho).1;obtain rfl|rfl|rfl|rfl:i=0\/i=1\/i=2\/i=3:=by omega
      all_goals cases ho;rfl
     case hs=>intro L a W hI;exact hI.1
     case h0=>
      refine⟨by simp,⟨jO _,fun _ _ _ _ _=>rfl⟩,d4.out.bl.drew,_,_,_,_,_,_,_,_,_,_,_,_,_,_,_,_,_,_,_,_,_,_,_,_,_,_,_,_,_,_,_,_,_,_,_,_,_,_,_,_,_,_,_,_,_,_,_,_,_,_,rfl,?_⟩;constructor
      case z6=>exact fun _=>d4.out.res.drew
      case z2=>exact fun _=>d4.out.rs2.drew
      all_goals (intro e;simp at e)
     case hstep=>
      rintro L a W i o ⟨A,hx,T,z0,z1,z4,z6,z8,z9,n3,m5,m4,m3,m2,g1,g0,f8,f7,f6,f5,f4,f3,f2,f1,f0,e9,e6,e4,d9,d8,l8,l3,l1,l0,k4,k3,k1,k0,j5,j4,j3,j2,j1,i9,i8,i5,d7,d6,oU,oM,oL,t31,t32,rfl,S⟩ hi ho;obtain⟨h9,o',v0,B⟩:=iM.1 hi;rw[ho]at v0;cases v0;have aS:i<4:=(gD.1 ho).1;have i2:=hx.1;clear hi;generalize R:(fun a' w'=>M6 g (w.heap.size) b tb v n (p2) (sv s.t.k s.t.n (.slice J s.t.len G) (.slice I s.K.length c1) (.slice D s.f.length c2) (.slice H s.d.length c3)) #[.int .i64 s.t.k,.int .i64 s.t.n,.slice J s.t.len G,.slice I s.K.length c1,.slice D s.f.length c2,.slice H s.d.length c3] x y w W0 (L.setIfInBounds i true) a' w')=K;obtain rfl|rfl|rfl|rfl:i=0\/i=1\/i=2\/i=3:=by omega
      ·cases ho;obtain⟨x0,x1,x2,x3,x4,x5⟩:=(b9.out _ hx).ae;go_simp;subst R;exact tR A hx T (S.aw rfl)
      ·cases ho;obtain⟨x0,x1,_,_⟩:=(HT2.out _ hx).two;go_simp;subst R;exact tR A hx T (S.au h9 rfl)
      ·cases ho;have e0:=S.s0 (B ⟨0,.data⟩ (by simp) rfl);have Z:=S.z6 h9;subst e0;have p1:=Z.free 0;have y0:=Z.set 0 (.int .i64 s.t.k);have o9:=y0.free 1;have x9:=y0.set 1 (.int .i64 s.t.n);have o8:=x9.free 2;have x8:=x9.set 2 (.slice J s.t.len G);have o7:=x8.free 3;have x7:=x8.set 3 (.slice I s.K.length c1);have o6:=x7.free 4;have x6:=x7.set 4 (.slice D s.f.length c2);have o5:=x6.free 5;have y5:=x6.set 5 (.slice H s.d.length c3);have sN:Bk ((((((W.setCell ⟨w.heap.size,0,none⟩ (.int .i64 s.t.k)).setCell ⟨w.heap.size,1,none⟩ (.int .i64 s.t.n)).setCell ⟨w.heap.size,2,none⟩ (.slice J s.t.len G)).setCell ⟨w.heap.size,3,none⟩ (.slice I s.K.length c1)).setCell ⟨w.heap.size,4,none⟩ (.slice D s.f.length c2)).setCell ⟨w.heap.size,5,none⟩ (.slice H s.d.length c3)) (w.heap.size) #[.int .i64 s.t.k,.int .i64 s.t.n,.slice J s.t.len G,.slice I s.K.length c1,.slice D s.f.length c2,.slice H s.d.length c3] 30:=y5;obtain⟨o4,o3,o2,o0,n6,n5⟩:=Z.ae;obtain⟨a5,a4,w9,w8,w7,v9⟩:=sN.ae;have Q:∀z,z≠w.heap.size->((((((W.setCell ⟨w.heap.size,0,none⟩ (.int .i64 s.t.k)).setCell ⟨w.heap.size,1,none⟩ (.int .i64 s.t.n)).setCell ⟨w.heap.size,2,none⟩ (.slice J s.t.len G)).setCell ⟨w.heap.size,3,none⟩ (.slice I s.K.length c1)).setCell ⟨w.heap.size,4,none⟩ (.slice D s.f.length c2)).setCell ⟨w.heap.size,5,none⟩ (.slice H s.d.length c3)).heap[z]?=W.heap[z]?:=fun z M=>(((((fM _ _ _ _ M).trans (fM _ _ _ _ M)).trans (fM _ _ _ _ M)).trans (fM _ _ _ _ M)).trans (fM _ _ _ _ M)).trans (fM _ _ _ _ M);clear y0 x9 x8 x7 x6 y5;have y7:Hid (Ah g (w.heap.size) W0 ((((((W.setCell ⟨w.heap.size,0,none⟩ (.int .i64 s.t.k)).setCell ⟨w.heap.size,1,none⟩ (.int .i64 s.t.n)).setCell ⟨w.heap.size,2,none⟩ (.slice J s.t.len G)).setCell ⟨w.heap.size,3,none⟩ (.slice I s.K.length c1)).setCell ⟨w.heap.size,4,none⟩ (.slice D s.f.length c2)).setCell ⟨w.heap.size,5,none⟩ (.slice H s.d.length c3))):=⟨by simp;exact hx.1,fun z h1 h2 h3 h4=>(Q z h2).trans (hx.2 z h1 h2 h3 h4)⟩;have y6:Hid (jB w.heap.size w ((((((W.setCell ⟨w.heap.size,0,none⟩ (.int .i64 s.t.k)).setCell ⟨w.heap.size,1,none⟩ (.int .i64 s.t.n)).setCell ⟨w.heap.size,2,none⟩ (.slice J s.t.len G)).setCell ⟨w.heap.size,3,none⟩ (.slice I s.K.length c1)).setCell ⟨w.heap.size,4,none⟩ (.slice D s.f.length c2)).setCell ⟨w.heap.size,5,none⟩ (.slice H s.d.length c3))):=((((((T.setCell (jO _) _).setCell (jO _) _).setCell (jO _) _).setCell (jO _) _).setCell (jO _) _).setCell (jO _) _);have y4:=S.ar A Q sN;clear Q sN a5 a4 w9 w8 w7 v9;go_simp;generalize ((((((W.setCell ⟨w.heap.size,0,none⟩ (.int .i64 s.t.k)).setCell ⟨w.heap.size,1,none⟩ (.int .i64 s.t.n)).setCell ⟨w.heap.size,2,none⟩ (.slice J s.t.len G)).setCell ⟨w.heap.size,3,none⟩ (.slice I s.K.length c1)).setCell ⟨w.heap.size,4,none⟩ (.slice D s.f.length c2)).setCell ⟨w.heap.size,5,none⟩ (.slice H s.d.length c3))=WX at*;subst R;exact tR A y7.out y6.out y4
      ·cases ho;have lt:=(B ⟨1,.data⟩ (by simp) rfl);have et:=S.s1 lt;have Z:=S.z2 h9;have r8:Hid (t32=tv x y):=et;have cM:=Z.free 0;have z5:=Z.set 0 (.int .i64 x);have cL:=z5.free 1;have b5:=z5.set 1 (.int .i64 y);have uN:Bk ((W.setCell ⟨w.heap.size+1,0,none⟩ (.int .i64 x)).setCell ⟨w.heap.size+1,1,none⟩ (.int .i64 y)) (w.heap.size+1) #[.int .i64 x,.int .i64 y] 32:=b5;obtain⟨cI,cF,_,_⟩:=Z.two;have y1:∀z,z≠w.heap.size+1->((W.setCell ⟨w.heap.size+1,0,none⟩ (.int .i64 x)).setCell ⟨w.heap.size+1,1,none⟩ (.int .i64 y)).heap[z]?=W.heap[z]?:=fun z M=>(fM _ _ _ _ M).trans (fM _ _ _ _ M);clear z5 b5;have b7:w.heap.size<=w.heap.size+1:=by omega
       have y7:Hid (Ah g (w.heap.size) W0 ((W.setCell ⟨w.heap.size+1,0,none⟩ (.int .i64 x)).setCell ⟨w.heap.size+1,1,none⟩ (.int .i64 y))):=⟨by simp;exact hx.1,fun z h1 h2 h3 h4=>(y1 z h3).trans (hx.2 z h1 h2 h3 h4)⟩;have y6:Hid (jB w.heap.size w ((W.setCell ⟨w.heap.size+1,0,none⟩ (.int .i64 x)).setCell ⟨w.heap.size+1,1,none⟩ (.int .i64 y))):=((T.setCell (p:=⟨w.heap.size+1,0,none⟩) b7 _).setCell (p:=⟨w.heap.size+1,1,none⟩) b7 _);have y4:=S.aq lt A r8.out y1 uN;clear y1 uN;subst et;go_simp;generalize ((W.setCell ⟨w.heap.size+1,0,none⟩ (.int .i64 x)).setCell ⟨w.heap.size+1,1,none⟩ (.int .i64 y))=WX at*;subst R;exact tR A y7.out y6.out y4
     case hend=>
      rintro L a W ⟨A,hx,T,z0,z1,z4,z6,z8,z9,n3,m5,m4,m3,m2,g1,g0,f8,f7,f6,f5,f4,f3,f2,f1,f0,e9,e6,e4,d9,d8,l8,l3,l1,l0,k4,k3,k1,k0,j5,j4,j3,j2,j1,i9,i8,i5,d7,d6,oU,oM,oL,t31,t32,rfl,S⟩ hr;have U:∀j,j<4->L.getD j false=true:=by
       refine jC (by simpa using A) ?_ hr;intro i o ho;have hi:i<4:=(gD.1 ho).1;obtain rfl|rfl|rfl|rfl:i=0\/i=1\/i=2\/i=3:=by omega
       all_goals cases ho
       all_goals (first|(simp;done)|(simp[nA];done)|decide)
      have bN:=S.s2 (U 2 (by omega));obtain⟨X,Y,-,bT⟩:=S.s3 (U 3 (by omega));have r7:Hid (gE W (.slice J s.t.len G) (.slice I s.K.length c1) (.slice D s.f.length c2) (.slice H s.d.length c3) s):=c4.out W hx;have t6:Hid (jB w.heap.size w W):=T;obtain⟨r0,r1,r2,r3,r4,r5⟩:=bN.ae;obtain⟨q0,q1,_,_⟩:=bT.two;clear U S hr bN bT hx;go_wp2_with fail;refine iP (v:= .tuple #[(sv s.t.k s.t.n (.slice J s.t.len G) (.slice I s.K.length c1) (.slice D s.f.length c2) (.slice H s.d.length c3)),tv X Y]) (by simp[results,Tryz.results14,go_sem,r0,r1,r2,r3,r4,r5,q0,q1];try rfl) rfl ?_;exact⟨s,_,_,_,_,X,Y,rfl,HD.out,r7.out,t6.out⟩
    ·refine (jY hc i4.out).mono ?_;rintro e W0 ⟨rfl,b6⟩;have O:Hid (xM g v n w W0 b p2 s (.slice J s.t.len G) (.slice I s.K.length c1) (.slice D s.f.length c2) (.slice H s.d.length c3)):=a8.out.aN (Bx.aD b6) (a8.out.rd.aa b6);clear a8 i4 b6 bT;have q3:=O.out.hg;have aT:=O.out.hb;have HRD:Hid (Rd g W0 g v n p2):=O.out.rd;have i1:g<W0.heap.size:=O.out.rd.blk.lt;have hbN:=O.out.box.lt;have b9:Hid (∀V:gX,Bx g W0 V->Bk V b (sc s.t.k s.t.n (.slice J s.t.len G) (.slice I s.K.length c1) (.slice D s.f.length c2) (.slice H s.d.length c3)) 30):=fun V hV=>O.out.box.aN hV (by omega);have c4:Hid (∀V:gX,Bx g W0 V->gE V (.slice J s.t.len G) (.slice I s.K.length c1) (.slice D s.f.length c2) (.slice H s.d.length c3) s):=fun V hV=>(O.out.ses.aN hV (fun z M=>by omega)).ses;have HTS:Hid (∀V:gX,Bx g W0 V->Ts V (.slice D s.f.length c2) s.f):=fun V hV=>(c4.out V hV).ts;go_wp2_with fail;refine iW (by kernel_rfl) (Lx g g W0.heap.size v n (p2) Aq (sv s.t.k s.t.n (.slice J s.t.len G) (.slice I s.K.length c1) (.slice D s.f.length c2) (.slice H s.d.length c3)) (.slice D s.f.length c2) b (.pointer (some ⟨w.heap.size,0,none⟩)) (.pointer (some ⟨w.heap.size+1,0,none⟩)) (.int .i64 (j:Int)) _ _ _ _ _ _ _ _ _ W0) ?hg ?hs ⟨by simp,Bx.aD (fQ _ _).drew,_,_,_,_,_,_,_,_,_,_,_,_,_,_,_,_,_,_,_,_,_,_,_,_,_,_,_,_,_,_,_,_,_,_,_,_,_,_,_,_,rfl,?h0⟩ ?hstep ?hend
     case h0=>
      constructor
      case rd=>exact⟨_,Int.le_refl _,by simp[fu],HRD.out.aa (fQ _ _).drew⟩
      all_goals (intro e;simp at e)
     case hg=>
      intro i o ho;have hi:i<20:=(gD.1 ho).1;obtain rfl|rfl|rfl|rfl|rfl|rfl|rfl|rfl|rfl|rfl|rfl|rfl|rfl|rfl|rfl|rfl|rfl|rfl|rfl|rfl:i=0\/i=1\/i=2\/i=3\/i=4\/i=5\/i=6\/i=7\/i=8\/i=9\/i=10\/i=11\/i=12\/i=13\/i=14\/i=15\/i=16\/i=17\/i=18\/i=19:=by omega
      all_goals cases ho;rfl
     case hs=>intro L a W hI;exact hI.1
     case hstep=>
      rintro L a W i o ⟨A,hx,z7,g1,g0,f8,f7,f6,f5,f4,f3,f2,f1,f0,e9,e6,e4,d9,d8,m1,m0,d7,d6,t8,t9,tS,tN,tM,tL,tK,tJ,tE,sO,sD,rL,rE,rD,rA,qV,pU,oW,oV,rfl,S⟩ hi ho;obtain⟨h9,o',v0,B⟩:=iM.1 hi;rw[ho]at v0;cases v0;have aS:i<20:=(gD.1 ho).1;have i2:W0.heap.size<=W.heap.size:=hx.size;clear hi;generalize R:(fun a' w'=>Lx g g W0.heap.size v n (p2) Aq (sv s.t.k s.t.n (.slice J s.t.len G) (.slice I s.K.length c1) (.slice D s.f.length c2) (.slice H s.d.length c3)) (.slice D s.f.length c2) b (.pointer (some ⟨w.heap.size,0,none⟩)) (.pointer (some ⟨w.heap.size+1,0,none⟩)) (.int .i64 (j:Int)) _ _ _ _ _ _ _ _ _ W0 (L.setIfInBounds i true) a' w')=K;obtain rfl|rfl|rfl|rfl|rfl|rfl|rfl|rfl|rfl|rfl|rfl|rfl|rfl|rfl|rfl|rfl|rfl|rfl|rfl|rfl:i=0\/i=1\/i=2\/i=3\/i=4\/i=5\/i=6\/i=7\/i=8\/i=9\/i=10\/i=11\/i=12\/i=13\/i=14\/i=15\/i=16\/i=17\/i=18\/i=19:=by omega
      ·cases ho;obtain⟨x0,x1,x2,x3,x4,x5⟩:=(b9.out _ hx).ae;go_simp;subst R;exact eJ A hx (S.aw rfl)
      ·cases ho;go_simp;subst R;exact eJ A hx (S.au rfl)
      ·cases ho;have e1:=S.s1 (B ⟨1,.data⟩ (by simp) rfl);subst e1;obtain⟨x0,x1,x2,x3,x4,x5⟩:=(b9.out _ hx).ae;go_simp;subst R;exact eJ A hx (S.ar rfl)
      ·cases ho;go_simp;subst R;exact eJ A hx (S.aq rfl)
      ·cases ho;have e1:=S.s3 (B ⟨3,.data⟩ (by simp) rfl);subst e1;obtain⟨p3,h1,h2,h3⟩:=S.rd;have hfu:=mL (L.getD 4 false) (k:=1) (by omega);have hfv:=mL (L.getD 7 false) (k:=1) (by omega);go_simp;refine (pA h3 (by omega) (by omega) _ (by omega) (by omega)).mono ?_;rintro e W1 ⟨kk,rfl,q2,p9,h6,y2⟩;subst R;exact eJ A (hx.trans y2) (S.be i1 A h9 y2 h1 h2 (by omega) (Int.le_refl _) h6 ⟨kk,rfl,q2,p9⟩)
      ·cases ho;obtain⟨kk,ek,q2,p9⟩:=S.s4 (B ⟨4,.data⟩ (by simp) rfl);subst ek;go_simp;subst R;exact eJ A hx (S.cb ⟨_,rfl⟩)
      ·cases ho;go_simp;subst R;exact eJ A hx (S.ca rfl)
      ·cases ho;have e1:=S.s6 (B ⟨6,.data⟩ (by simp) rfl);subst e1;obtain⟨p3,h1,h2,h3⟩:=S.rd;have hfu:=mL (L.getD 4 false) (k:=1) (by omega);have hfv:=mL (L.getD 7 false) (k:=1) (by omega);go_simp;refine (pA h3 (by omega) (by omega) _ (by omega) (by omega)).mono ?_;rintro e W1 ⟨kk,rfl,q2,p9,h6,y2⟩;subst R;exact eJ A (hx.trans y2) (S.cZ i1 A h9 y2 h1 h2 (by omega) (Int.le_refl _) h6 ⟨kk,rfl,q2,p9⟩)
      ·cases ho;obtain⟨k5,e5⟩:=S.s5 (B ⟨5,.data⟩ (by simp) rfl);obtain⟨k7,e7,_,_⟩:=S.s7 (B ⟨7,.data⟩ (by simp) rfl);subst e5 e7;go_simp;subst R;exact eJ A hx (S.cN ⟨_,_,rfl⟩)
      ·cases ho;obtain⟨X,Y,e8⟩:=S.s8 (B ⟨8,.data⟩ (by simp) rfl);subst e8;have mB:jB W.heap.size W (W.alloc (.cells #[.int .i64 X,.int .i64 Y] 32)):=aH (fQ _ _) _;have ow:bW (W.alloc (.cells #[.int .i64 X,.int .i64 Y] 32)) W0.heap.size (.slice (some ⟨W.heap.size,0,none⟩) 1 1) [(X,Y)]:=P7 i2;have y4:=(S.keep mB i1).cg (u:= .slice (some ⟨W.heap.size,0,none⟩) 1 1) ⟨[(X,Y)],by simp,ow⟩;have y7:Hid (Bx g W0 (W.alloc (.cells #[.int .i64 X,.int .i64 Y] 32))):=hx.alloc _;clear ow mB;go_simp;subst R;exact eJ A y7.out y4
      ·cases ho;have e2:=S.s2 (B ⟨2,.data⟩ (by simp) rfl);obtain⟨f9,hf9,ow9⟩:=S.s9 (B ⟨9,.data⟩ (by simp) rfl);subst e2;go_simp;refine (yY _ _ s.f f9 _ (HTS.out _ hx) (bW.ts ow9 (by omega))).mono ?_;rintro e W1 ⟨o1,rfl,oA,v7⟩;subst R;exact eJ A (hx.trans (Bx.aD v7)) ((S.keep v7 i1).bQ ⟨_,by have:=MD s.f f9;omega,cW oA i2⟩)
      ·cases ho;have e0:=S.s0 (B ⟨0,.data⟩ (by simp) rfl);obtain⟨f,hf,ow⟩:=S.s10 (B ⟨10,.data⟩ (by simp) rfl);subst e0;go_simp;refine (E6 HD.out (c4.out _ hx) (bW.ts ow (by omega)) hf).mono ?_;rintro e W1 ⟨x,m,o,rfl,an,v7⟩;subst R;refine eJ A (hx.trans (Bx.aD v7)) ((S.keep v7 i1).bL (fun e=>gN e h9) ⟨x,m,o,rfl,an.wk fun z M _=>⟨by omega,fun hl9 e=>?_⟩⟩);obtain⟨q,eq,hq,Z⟩:=S.z hl9 (gF (by omega) fun e=>gN (S.c17 e) h9);rw[eq]at e;have h1:=Z.lt;have h2:=congrArg Addr.block (Option.some.inj (gQ.pointer.inj e));simp at h2;omega
      ·cases ho;have l4:=(B ⟨11,.data⟩ (by simp) rfl);go_simp;subst R;exact eJ A hx (S.az l4 rfl)
      ·cases ho;have l5:=(B ⟨12,.data⟩ (by simp) rfl);have e5:=S.s12 l5;obtain⟨x,m,o,ea,an⟩:=S.s11 (S.c12 l5);subst e5 ea;go_simp;subst R;exact eJ A hx (S.bu (S.c12 l5) ⟨_,_,_,rfl,rfl⟩)
      ·cases ho;have l5:=(B ⟨12,.data⟩ (by simp) rfl);have e5:=S.s12 l5;obtain⟨x,m,o,ea,an⟩:=S.s11 (S.c12 l5);subst e5 ea;go_simp;subst R;exact eJ A hx (S.cq (S.c12 l5) ⟨_,_,_,rfl,rfl⟩)
      ·cases ho;have l5:=(B ⟨12,.data⟩ (by simp) rfl);have e5:=S.s12 l5;obtain⟨x,m,o,ea,an⟩:=S.s11 (S.c12 l5);subst e5 ea;go_simp;subst R;exact eJ A hx (S.ct (S.c12 l5) ⟨_,_,_,rfl,rfl⟩)
      ·cases ho;go_simp;subst R;exact eJ A (hx.alloc _) (S.dT A h9 i2 i1 (aH (fQ _ _) _) (Bk.new _ _ rfl))
      ·cases ho;have l9:=(B ⟨16,.data⟩ (by simp) rfl);obtain⟨q,eq,b8,Z⟩:=S.z l9 h9;have l6:=(B ⟨13,.data⟩ (by simp) rfl);obtain⟨x,m,o,ea,ex⟩:=S.s13 l6;obtain⟨x',m',o',nB,an⟩:=S.s11 (S.c13 l6);have mR:=ea.symm.trans nB;simp only[gQ.tuple.injEq,gM.injEq,List.cons.injEq,and_true]at mR;obtain⟨rfl,rfl,rfl⟩:=mR;obtain⟨s',tT,si',sf',sd',ok,e1,e2,hG,a9⟩:=an;obtain⟨b0,d0,b1,d1,b2,d2,b3,d3,rfl,rfl,rfl,rfl⟩:=a9.ses.sl;subst eq ex e1;have g9:g≠q:=by omega
       have i3:g<=q:=by omega
       have p1:=Z.free 0;have y0:=Z.set 0 (.int .i64 s'.t.k);have o9:=y0.free 1;have x9:=y0.set 1 (.int .i64 s'.t.n);have o8:=x9.free 2;have x8:=x9.set 2 (.slice b0 s'.t.len d0);have o7:=x8.free 3;have x7:=x8.set 3 (.slice b1 s'.K.length d1);have o6:=x7.free 4;have x6:=x7.set 4 (.slice b2 s'.f.length d2);have o5:=x6.free 5;have y5:=x6.set 5 (.slice b3 s'.d.length d3);have sN:Bk ((((((W.setCell ⟨q,0,none⟩ (.int .i64 s'.t.k)).setCell ⟨q,1,none⟩ (.int .i64 s'.t.n)).setCell ⟨q,2,none⟩ (.slice b0 s'.t.len d0)).setCell ⟨q,3,none⟩ (.slice b1 s'.K.length d1)).setCell ⟨q,4,none⟩ (.slice b2 s'.f.length d2)).setCell ⟨q,5,none⟩ (.slice b3 s'.d.length d3)) (q) #[.int .i64 s'.t.k,.int .i64 s'.t.n,.slice b0 s'.t.len d0,.slice b1 s'.K.length d1,.slice b2 s'.f.length d2,.slice b3 s'.d.length d3] 30:=y5;obtain⟨o4,o3,o2,o0,n6,n5⟩:=Z.ae;obtain⟨a5,a4,w9,w8,w7,v9⟩:=sN.ae;have Q:∀z,z≠q->((((((W.setCell ⟨q,0,none⟩ (.int .i64 s'.t.k)).setCell ⟨q,1,none⟩ (.int .i64 s'.t.n)).setCell ⟨q,2,none⟩ (.slice b0 s'.t.len d0)).setCell ⟨q,3,none⟩ (.slice b1 s'.K.length d1)).setCell ⟨q,4,none⟩ (.slice b2 s'.f.length d2)).setCell ⟨q,5,none⟩ (.slice b3 s'.d.length d3)).heap[z]?=W.heap[z]?:=fun z M=>(((((fM _ _ _ _ M).trans (fM _ _ _ _ M)).trans (fM _ _ _ _ M)).trans (fM _ _ _ _ M)).trans (fM _ _ _ _ M)).trans (fM _ _ _ _ M);clear y0 x9 x8 x7 x6 y5;have nT:Hid (((((((W.setCell ⟨q,0,none⟩ (.int .i64 s'.t.k)).setCell ⟨q,1,none⟩ (.int .i64 s'.t.n)).setCell ⟨q,2,none⟩ (.slice b0 s'.t.len d0)).setCell ⟨q,3,none⟩ (.slice b1 s'.K.length d1)).setCell ⟨q,4,none⟩ (.slice b2 s'.f.length d2)).setCell ⟨q,5,none⟩ (.slice b3 s'.d.length d3)).heap.size=W.heap.size):=by show _=_;simp
       have nX:Hid (∀p3,Rd g W g v n p3->Rd g ((((((W.setCell ⟨q,0,none⟩ (.int .i64 s'.t.k)).setCell ⟨q,1,none⟩ (.int .i64 s'.t.n)).setCell ⟨q,2,none⟩ (.slice b0 s'.t.len d0)).setCell ⟨q,3,none⟩ (.slice b1 s'.K.length d1)).setCell ⟨q,4,none⟩ (.slice b2 s'.f.length d2)).setCell ⟨q,5,none⟩ (.slice b3 s'.d.length d3)) g v n p3):=fun p3 h=>(((((h.apart (q:=⟨q,0,none⟩) g9 i3 _).apart (q:=⟨q,1,none⟩) g9 i3 _).apart (q:=⟨q,2,none⟩) g9 i3 _).apart (q:=⟨q,3,none⟩) g9 i3 _).apart (q:=⟨q,4,none⟩) g9 i3 _).apart (q:=⟨q,5,none⟩) g9 i3 _;have y6:Hid (Bx g W0 ((((((W.setCell ⟨q,0,none⟩ (.int .i64 s'.t.k)).setCell ⟨q,1,none⟩ (.int .i64 s'.t.n)).setCell ⟨q,2,none⟩ (.slice b0 s'.t.len d0)).setCell ⟨q,3,none⟩ (.slice b1 s'.K.length d1)).setCell ⟨q,4,none⟩ (.slice b2 s'.f.length d2)).setCell ⟨q,5,none⟩ (.slice b3 s'.d.length d3))):=(((((hx.aA (p:=⟨q,0,none⟩) b8 _).aA (p:=⟨q,1,none⟩) b8 _).aA (p:=⟨q,2,none⟩) b8 _).aA (p:=⟨q,3,none⟩) b8 _).aA (p:=⟨q,4,none⟩) b8 _).aA (p:=⟨q,5,none⟩) b8 _;have y4:=S.dO A (S.c13 l6) l9 rfl b8 ea Z Q nT.out nX.out sN;clear Q sN a5 a4 w9 w8 w7 v9 nT nX ea nB e2;go_simp;generalize ((((((W.setCell ⟨q,0,none⟩ (.int .i64 s'.t.k)).setCell ⟨q,1,none⟩ (.int .i64 s'.t.n)).setCell ⟨q,2,none⟩ (.slice b0 s'.t.len d0)).setCell ⟨q,3,none⟩ (.slice b1 s'.K.length d1)).setCell ⟨q,4,none⟩ (.slice b2 s'.f.length d2)).setCell ⟨q,5,none⟩ (.slice b3 s'.d.length d3))=WX at*;subst R;exact eJ A y6.out y4
      ·cases ho;have l7:=(B ⟨14,.data⟩ (by simp) rfl);obtain⟨x,m,o,ea,em⟩:=S.s14 l7;subst em;have bP:=(show Hid _ from ea);clear ea;go_simp;subst R;exact eJ A hx (S.dJ (S.c14 l7) ⟨_,_,_,bP.out,rfl⟩)
      ·cases ho;have l7:=(B ⟨15,.data⟩ (by simp) rfl);obtain⟨x,m,o,ea,em⟩:=S.s15 l7;subst em;have bP:=(show Hid _ from ea);clear ea;go_simp;subst R;exact eJ A hx (S.dH (S.c15 l7) ⟨_,_,_,bP.out,rfl⟩)
     case hend=>
      rintro L a W ⟨A,hx,z7,g1,g0,f8,f7,f6,f5,f4,f3,f2,f1,f0,e9,e6,e4,d9,d8,m1,m0,d7,d6,t8,t9,tS,tN,tM,tL,tK,tJ,tE,sO,sD,rL,rE,rD,rA,qV,pU,oW,oV,rfl,S⟩ hr;have U:∀j,j<20->L.getD j false=true:=by
       refine jC (by simpa using A) ?_ hr;intro i o ho;have hi:i<20:=(gD.1 ho).1;obtain rfl|rfl|rfl|rfl|rfl|rfl|rfl|rfl|rfl|rfl|rfl|rfl|rfl|rfl|rfl|rfl|rfl|rfl|rfl|rfl:i=0\/i=1\/i=2\/i=3\/i=4\/i=5\/i=6\/i=7\/i=8\/i=9\/i=10\/i=11\/i=12\/i=13\/i=14\/i=15\/i=16\/i=17\/i=18\/i=19:=by omega
       all_goals cases ho
       all_goals (first|(simp;done)|(simp[nA];done)|decide)
      have HSX:=S.fin U;clear U S hr;obtain⟨q,k2,n2,e0,e1,e2,e3,p3,rfl,b8,Z,an,hp3,hp3',eM⟩:=HSX;obtain⟨s',tT,si',sf',sd',ok,ee,rfl,hG,a9⟩:=an;simp only[gQ.agg.injEq,gM.injEq,List.cons.injEq,gQ.int.injEq,and_true,true_and]at ee;obtain⟨rfl,rfl,rfl,rfl,rfl,rfl⟩:=ee;obtain⟨b0,d0,b1,d1,b2,d2,b3,d3,rfl,rfl,rfl,rfl⟩:=a9.ses.sl;have g5:Hid (xM g v n w W b p3 s (.slice J s.t.len G) (.slice I s.K.length c1) (.slice D s.f.length c2) (.slice H s.d.length c3)):=O.out.aN hx eM;have bB:=g5.out.box;have hqb:q≠b:=by omega
      cases ok
      ·clear Z a9 bB;go_wp2_with fail;go_roundw
       case rel=>exact⟨j+1,p3,s,_,_,_,_,by omega,by go_num,g5.out,HD.out,by omega,by omega⟩
       case measure=>simp[intOf];omega
      ·have hd':=hG rfl;obtain⟨t0,t1,t2,t3,t4,t5⟩:=Z.ae;have p1:=bB.free 0;have y0:=bB.set 0 (.int .i64 s'.t.k);have o9:=y0.free 1;have x9:=y0.set 1 (.int .i64 s'.t.n);have o8:=x9.free 2;have x8:=x9.set 2 (.slice b0 s'.t.len d0);have o7:=x8.free 3;have x7:=x8.set 3 (.slice b1 s'.K.length d1);have o6:=x7.free 4;have x6:=x7.set 4 (.slice b2 s'.f.length d2);have o5:=x6.free 5;have y5:=x6.set 5 (.slice b3 s'.d.length d3);have sN:Bk ((((((W.setCell ⟨b,0,none⟩ (.int .i64 s'.t.k)).setCell ⟨b,1,none⟩ (.int .i64 s'.t.n)).setCell ⟨b,2,none⟩ (.slice b0 s'.t.len d0)).setCell ⟨b,3,none⟩ (.slice b1 s'.K.length d1)).setCell ⟨b,4,none⟩ (.slice b2 s'.f.length d2)).setCell ⟨b,5,none⟩ (.slice b3 s'.d.length d3)) (b) #[.int .i64 s'.t.k,.int .i64 s'.t.n,.slice b0 s'.t.len d0,.slice b1 s'.K.length d1,.slice b2 s'.f.length d2,.slice b3 s'.d.length d3] 30:=y5;obtain⟨o4,o3,o2,o0,n6,n5⟩:=bB.ae;obtain⟨a5,a4,w9,w8,w7,v9⟩:=sN.ae;have Q:∀z,z≠b->((((((W.setCell ⟨b,0,none⟩ (.int .i64 s'.t.k)).setCell ⟨b,1,none⟩ (.int .i64 s'.t.n)).setCell ⟨b,2,none⟩ (.slice b0 s'.t.len d0)).setCell ⟨b,3,none⟩ (.slice b1 s'.K.length d1)).setCell ⟨b,4,none⟩ (.slice b2 s'.f.length d2)).setCell ⟨b,5,none⟩ (.slice b3 s'.d.length d3)).heap[z]?=W.heap[z]?:=fun z M=>(((((fM _ _ _ _ M).trans (fM _ _ _ _ M)).trans (fM _ _ _ _ M)).trans (fM _ _ _ _ M)).trans (fM _ _ _ _ M)).trans (fM _ _ _ _ M);clear y0 x9 x8 x7 x6 y5;have hB:g<=b:=by omega
       have b4:w.heap.size<=b:=by omega
       have HNX:Hid (xM g v n w ((((((W.setCell ⟨b,0,none⟩ (.int .i64 s'.t.k)).setCell ⟨b,1,none⟩ (.int .i64 s'.t.n)).setCell ⟨b,2,none⟩ (.slice b0 s'.t.len d0)).setCell ⟨b,3,none⟩ (.slice b1 s'.K.length d1)).setCell ⟨b,4,none⟩ (.slice b2 s'.f.length d2)).setCell ⟨b,5,none⟩ (.slice b3 s'.d.length d3)) b p3 s' (.slice b0 s'.t.len d0) (.slice b1 s'.K.length d1) (.slice b2 s'.f.length d2) (.slice b3 s'.d.length d3)):=⟨sN,by unfold Bk;rw[Q _ (by omega)];exact g5.out.res,by unfold Bk;rw[Q _ (by omega)];exact g5.out.rs2,a9.move (fun z M hl=>⟨⟨by omega,by omega⟩,Q z (by omega)⟩) (by simp),(((((eM.apart (q:=⟨b,0,none⟩) i0 hB _).apart (q:=⟨b,1,none⟩) i0 hB _).apart (q:=⟨b,2,none⟩) i0 hB _).apart (q:=⟨b,3,none⟩) i0 hB _).apart (q:=⟨b,4,none⟩) i0 hB _).apart (q:=⟨b,5,none⟩) i0 hB _,(((((g5.out.bl.setCell (p:=⟨b,0,none⟩) b4 _).setCell (p:=⟨b,1,none⟩) b4 _).setCell (p:=⟨b,2,none⟩) b4 _).setCell (p:=⟨b,3,none⟩) b4 _).setCell (p:=⟨b,4,none⟩) b4 _).setCell (p:=⟨b,5,none⟩) b4 _,g5.out.hg,g5.out.hb⟩;clear Q sN a9;go_wp2_with fail;clear p1 o9 o8 o7 o6 o5 o4 o3 o2 o0 n6 n5 a5 a4 w9 w8 w7 v9 t0 t1 t2 t3 t4 t5 bB Z;generalize ((((((W.setCell ⟨b,0,none⟩ (.int .i64 s'.t.k)).setCell ⟨b,1,none⟩ (.int .i64 s'.t.n)).setCell ⟨b,2,none⟩ (.slice b0 s'.t.len d0)).setCell ⟨b,3,none⟩ (.slice b1 s'.K.length d1)).setCell ⟨b,4,none⟩ (.slice b2 s'.f.length d2)).setCell ⟨b,5,none⟩ (.slice b3 s'.d.length d3))=WX at*;go_roundw
       case rel=>exact⟨j+1,p3,s',_,_,_,_,by omega,by go_num,HNX.out,hd',by omega,by omega⟩
       case measure=>simp[intOf];omega
   ·have hk':¬(0:Int)<k:=hk;go_wp2_with fail;have q3:=O.out.hg;have aT:=O.out.hb;have g4:=O.out.box.lt;have b9:Hid (∀V:gX,Ah g (w.heap.size) w4 V->Bk V b (sc s.t.k s.t.n (.slice J s.t.len G) (.slice I s.K.length c1) (.slice D s.f.length c2) (.slice H s.d.length c3)) 30):=fun V hV=>by unfold Bk;rw[hV.2 _ (by omega) (by omega) (by omega) g4];exact O.out.box
    have c4:Hid (∀V:gX,Ah g (w.heap.size) w4 V->gE V (.slice J s.t.len G) (.slice I s.K.length c1) (.slice D s.f.length c2) (.slice H s.d.length c3) s):=fun V hV=>O.out.ses V fun z M hl=>hV.2 z (by omega) (by omega) (by omega) hl;refine iW (by kernel_rfl) (EH g (w.heap.size) b 0 v n (p'+1) (sv s.t.k s.t.n (.slice J s.t.len G) (.slice I s.K.length c1) (.slice D s.f.length c2) (.slice H s.d.length c3)) #[.int .i64 s.t.k,.int .i64 s.t.n,.slice J s.t.len G,.slice I s.K.length c1,.slice D s.f.length c2,.slice H s.d.length c3] 0 0 w w4) ?hg ?hs ?h0 ?hstep ?hend
    case hg=>
     intro i o ho;have hi:i<5:=(gD.1 ho).1;obtain rfl|rfl|rfl|rfl|rfl:i=0\/i=1\/i=2\/i=3\/i=4:=by omega
     all_goals cases ho;rfl
    case hs=>intro L a W hI;exact hI.1
    case h0=>
     refine⟨by simp,⟨jO _,fun _ _ _ _ _=>rfl⟩,O.out.bl.drew,_,_,_,_,_,_,_,_,_,_,_,_,_,_,_,_,_,_,_,_,_,_,_,_,_,_,_,_,_,_,_,_,_,_,_,_,_,_,_,_,_,_,_,_,_,_,_,_,_,_,rfl,?_⟩;constructor
     case z6=>exact fun _=>O.out.res.drew
     case z2=>exact fun _=>O.out.rs2.drew
     case rd=>exact fun _=>O.out.rd.aa (fQ _ _).drew
     all_goals (intro e;simp at e)
    case hstep=>
     rintro L a W i o ⟨A,hx,T,z0,z1,z6,z7,z8,z9,n3,m5,m4,m3,m2,g1,g0,f8,f7,f6,f5,f4,f3,f2,f1,f0,e9,e6,e4,d9,d8,m1,m0,l8,l3,l1,l0,k4,k3,k1,k0,j5,j4,j3,j2,j1,i9,i8,i5,d7,d6,t51,t52,t53,rfl,S⟩ hi ho;obtain⟨h9,o',v0,B⟩:=iM.1 hi;rw[ho]at v0;cases v0;have aS:i<5:=(gD.1 ho).1;have i2:=hx.1;clear hi;generalize R:(fun a' w'=>EH g (w.heap.size) b 0 v n (p'+1) (sv s.t.k s.t.n (.slice J s.t.len G) (.slice I s.K.length c1) (.slice D s.f.length c2) (.slice H s.d.length c3)) #[.int .i64 s.t.k,.int .i64 s.t.n,.slice J s.t.len G,.slice I s.K.length c1,.slice D s.f.length c2,.slice H s.d.length c3] 0 0 w w4 (L.setIfInBounds i true) a' w')=K;obtain rfl|rfl|rfl|rfl|rfl:i=0\/i=1\/i=2\/i=3\/i=4:=by omega
     ·cases ho;obtain⟨x0,x1,x2,x3,x4,x5⟩:=(b9.out _ hx).ae;go_simp;subst R;exact k6 A hx T (S.aw rfl)
     ·cases ho;go_simp;subst R;exact k6 A hx T (S.au rfl)
     ·cases ho;have e1:=S.s1 (B ⟨1,.data⟩ (by simp) rfl);subst e1;have h3:=S.rd h9;go_simp;refine (wT h3 (by omega) (by omega)).mono ?_;rintro e W1 ⟨X,Y,rfl,_,_,_,_,_,y2⟩;subst R;exact k6 A ⟨mO hx.1 y2.size,fun z h1 h2 h3 h4=>(y2.block z (by omega) h1).trans (hx.2 z h1 h2 h3 h4)⟩ (y2.below T T.size (by omega)) (S.ar A h9 q3 y2 ⟨X,Y,rfl⟩)
     ·cases ho;have e0:=S.s0 (B ⟨0,.data⟩ (by simp) rfl);have l2:=B ⟨2,.chain⟩ (by simp) rfl;have Z:=S.z6 h9;subst e0;have p1:=Z.free 0;have y0:=Z.set 0 (.int .i64 s.t.k);have o9:=y0.free 1;have x9:=y0.set 1 (.int .i64 s.t.n);have o8:=x9.free 2;have x8:=x9.set 2 (.slice J s.t.len G);have o7:=x8.free 3;have x7:=x8.set 3 (.slice I s.K.length c1);have o6:=x7.free 4;have x6:=x7.set 4 (.slice D s.f.length c2);have o5:=x6.free 5;have y5:=x6.set 5 (.slice H s.d.length c3);have sN:Bk ((((((W.setCell ⟨w.heap.size,0,none⟩ (.int .i64 s.t.k)).setCell ⟨w.heap.size,1,none⟩ (.int .i64 s.t.n)).setCell ⟨w.heap.size,2,none⟩ (.slice J s.t.len G)).setCell ⟨w.heap.size,3,none⟩ (.slice I s.K.length c1)).setCell ⟨w.heap.size,4,none⟩ (.slice D s.f.length c2)).setCell ⟨w.heap.size,5,none⟩ (.slice H s.d.length c3)) (w.heap.size) #[.int .i64 s.t.k,.int .i64 s.t.n,.slice J s.t.len G,.slice I s.K.length c1,.slice D s.f.length c2,.slice H s.d.length c3] 30:=y5;obtain⟨o4,o3,o2,o0,n6,n5⟩:=Z.ae;obtain⟨a5,a4,w9,w8,w7,v9⟩:=sN.ae;have Q:∀z,z≠w.heap.size->((((((W.setCell ⟨w.heap.size,0,none⟩ (.int .i64 s.t.k)).setCell ⟨w.heap.size,1,none⟩ (.int .i64 s.t.n)).setCell ⟨w.heap.size,2,none⟩ (.slice J s.t.len G)).setCell ⟨w.heap.size,3,none⟩ (.slice I s.K.length c1)).setCell ⟨w.heap.size,4,none⟩ (.slice D s.f.length c2)).setCell ⟨w.heap.size,5,none⟩ (.slice H s.d.length c3)).heap[z]?=W.heap[z]?:=fun z M=>(((((fM _ _ _ _ M).trans (fM _ _ _ _ M)).trans (fM _ _ _ _ M)).trans (fM _ _ _ _ M)).trans (fM _ _ _ _ M)).trans (fM _ _ _ _ M);clear y0 x9 x8 x7 x6 y5;have y7:Hid (Ah g (w.heap.size) w4 ((((((W.setCell ⟨w.heap.size,0,none⟩ (.int .i64 s.t.k)).setCell ⟨w.heap.size,1,none⟩ (.int .i64 s.t.n)).setCell ⟨w.heap.size,2,none⟩ (.slice J s.t.len G)).setCell ⟨w.heap.size,3,none⟩ (.slice I s.K.length c1)).setCell ⟨w.heap.size,4,none⟩ (.slice D s.f.length c2)).setCell ⟨w.heap.size,5,none⟩ (.slice H s.d.length c3))):=⟨by simp;exact hx.1,fun z h1 h2 h3 h4=>(Q z h2).trans (hx.2 z h1 h2 h3 h4)⟩;have y6:Hid (jB w.heap.size w ((((((W.setCell ⟨w.heap.size,0,none⟩ (.int .i64 s.t.k)).setCell ⟨w.heap.size,1,none⟩ (.int .i64 s.t.n)).setCell ⟨w.heap.size,2,none⟩ (.slice J s.t.len G)).setCell ⟨w.heap.size,3,none⟩ (.slice I s.K.length c1)).setCell ⟨w.heap.size,4,none⟩ (.slice D s.f.length c2)).setCell ⟨w.heap.size,5,none⟩ (.slice H s.d.length c3))):=((((((T.setCell (jO _) _).setCell (jO _) _).setCell (jO _) _).setCell (jO _) _).setCell (jO _) _).setCell (jO _) _);have y4:=S.aq l2 A Q sN;clear Q sN a5 a4 w9 w8 w7 v9;go_simp;generalize ((((((W.setCell ⟨w.heap.size,0,none⟩ (.int .i64 s.t.k)).setCell ⟨w.heap.size,1,none⟩ (.int .i64 s.t.n)).setCell ⟨w.heap.size,2,none⟩ (.slice J s.t.len G)).setCell ⟨w.heap.size,3,none⟩ (.slice I s.K.length c1)).setCell ⟨w.heap.size,4,none⟩ (.slice D s.f.length c2)).setCell ⟨w.heap.size,5,none⟩ (.slice H s.d.length c3))=WX at*;subst R;exact k6 A y7.out y6.out y4
     ·cases ho;have lt:=(B ⟨2,.data⟩ (by simp) rfl);obtain⟨X,Y,et⟩:=S.s2 lt;have Z:=S.z2 h9;have r8:Hid (t53=tv X Y):=et;have cM:=Z.free 0;have z5:=Z.set 0 (.int .i64 X);have cL:=z5.free 1;have b5:=z5.set 1 (.int .i64 Y);have uN:Bk ((W.setCell ⟨w.heap.size+1,0,none⟩ (.int .i64 X)).setCell ⟨w.heap.size+1,1,none⟩ (.int .i64 Y)) (w.heap.size+1) #[.int .i64 X,.int .i64 Y] 32:=b5;obtain⟨cI,cF,_,_⟩:=Z.two;have y1:∀z,z≠w.heap.size+1->((W.setCell ⟨w.heap.size+1,0,none⟩ (.int .i64 X)).setCell ⟨w.heap.size+1,1,none⟩ (.int .i64 Y)).heap[z]?=W.heap[z]?:=fun z M=>(fM _ _ _ _ M).trans (fM _ _ _ _ M);clear z5 b5;have b7:w.heap.size<=w.heap.size+1:=by omega
      have y7:Hid (Ah g (w.heap.size) w4 ((W.setCell ⟨w.heap.size+1,0,none⟩ (.int .i64 X)).setCell ⟨w.heap.size+1,1,none⟩ (.int .i64 Y))):=⟨by simp;exact hx.1,fun z h1 h2 h3 h4=>(y1 z h3).trans (hx.2 z h1 h2 h3 h4)⟩;have y6:Hid (jB w.heap.size w ((W.setCell ⟨w.heap.size+1,0,none⟩ (.int .i64 X)).setCell ⟨w.heap.size+1,1,none⟩ (.int .i64 Y))):=((T.setCell (p:=⟨w.heap.size+1,0,none⟩) b7 _).setCell (p:=⟨w.heap.size+1,1,none⟩) b7 _);have y4:=S.be lt A r8.out y1 uN;clear y1 uN;subst et;go_simp;generalize ((W.setCell ⟨w.heap.size+1,0,none⟩ (.int .i64 X)).setCell ⟨w.heap.size+1,1,none⟩ (.int .i64 Y))=WX at*;subst R;exact k6 A y7.out y6.out y4
    case hend=>
     rintro L a W ⟨A,hx,T,z0,z1,z6,z7,z8,z9,n3,m5,m4,m3,m2,g1,g0,f8,f7,f6,f5,f4,f3,f2,f1,f0,e9,e6,e4,d9,d8,m1,m0,l8,l3,l1,l0,k4,k3,k1,k0,j5,j4,j3,j2,j1,i9,i8,i5,d7,d6,t51,t52,t53,rfl,S⟩ hr;have U:∀j,j<5->L.getD j false=true:=by
      refine jC (by simpa using A) ?_ hr;intro i o ho;have hi:i<5:=(gD.1 ho).1;obtain rfl|rfl|rfl|rfl|rfl:i=0\/i=1\/i=2\/i=3\/i=4:=by omega
      all_goals cases ho
      all_goals (first|(simp;done)|(simp[nA];done)|decide)
     have bN:=S.s3 (U 3 (by omega));obtain⟨X,Y,-,bT⟩:=S.s4 (U 4 (by omega));have r7:Hid (gE W (.slice J s.t.len G) (.slice I s.K.length c1) (.slice D s.f.length c2) (.slice H s.d.length c3) s):=c4.out W hx;have t6:Hid (jB w.heap.size w W):=T;obtain⟨r0,r1,r2,r3,r4,r5⟩:=bN.ae;obtain⟨q0,q1,_,_⟩:=bT.two;clear U S hr bN bT hx;go_wp2_with fail;refine iP (v:= .tuple #[(sv s.t.k s.t.n (.slice J s.t.len G) (.slice I s.K.length c1) (.slice D s.f.length c2) (.slice H s.d.length c3)),tv X Y]) (by simp[results,Tryz.results14,go_sem,r0,r1,r2,r3,r4,r5,q0,q1];try rfl) rfl ?_;exact⟨s,_,_,_,_,X,Y,rfl,HD.out,r7.out,t6.out⟩
  ·have hj':¬(j:Int)<5:=by omega
   have O:Hid (xM g v n w wr b p' s (.slice J s.t.len G) (.slice I s.K.length c1) (.slice D s.f.length c2) (.slice H s.d.length c3)):=hI;clear hI;go_wp2_with fail;have q3:=O.out.hg;have aT:=O.out.hb;have g4:=O.out.box.lt;have b9:Hid (∀V:gX,Ah g (w.heap.size) wr V->Bk V b (sc s.t.k s.t.n (.slice J s.t.len G) (.slice I s.K.length c1) (.slice D s.f.length c2) (.slice H s.d.length c3)) 30):=fun V hV=>by unfold Bk;rw[hV.2 _ (by omega) (by omega) (by omega) g4];exact O.out.box
   have c4:Hid (∀V:gX,Ah g (w.heap.size) wr V->gE V (.slice J s.t.len G) (.slice I s.K.length c1) (.slice D s.f.length c2) (.slice H s.d.length c3) s):=fun V hV=>O.out.ses V fun z M hl=>hV.2 z (by omega) (by omega) (by omega) hl;refine iW (by kernel_rfl) (EH g (w.heap.size) b 0 v n (p') (sv s.t.k s.t.n (.slice J s.t.len G) (.slice I s.K.length c1) (.slice D s.f.length c2) (.slice H s.d.length c3)) #[.int .i64 s.t.k,.int .i64 s.t.n,.slice J s.t.len G,.slice I s.K.length c1,.slice D s.f.length c2,.slice H s.d.length c3] 0 0 w wr) ?hg ?hs ?h0 ?hstep ?hend
   case hg=>
    intro i o ho;have hi:i<5:=(gD.1 ho).1;obtain rfl|rfl|rfl|rfl|rfl:i=0\/i=1\/i=2\/i=3\/i=4:=by omega
    all_goals cases ho;rfl
   case hs=>intro L a W hI;exact hI.1
   case h0=>
    refine⟨by simp,⟨jO _,fun _ _ _ _ _=>rfl⟩,O.out.bl.drew,_,_,_,_,_,_,_,_,_,_,_,_,_,_,_,_,_,_,_,_,_,_,_,_,_,_,_,_,_,_,_,_,_,_,_,_,_,_,_,_,_,_,_,_,_,_,_,_,_,_,rfl,?_⟩;constructor
    case z6=>exact fun _=>O.out.res.drew
    case z2=>exact fun _=>O.out.rs2.drew
    case rd=>exact fun _=>O.out.rd.aa (fQ _ _).drew
    all_goals (intro e;simp at e)
   case hstep=>
    rintro L a W i o ⟨A,hx,T,z0,z1,z6,z7,z8,z9,n3,m5,m4,m3,m2,g1,g0,f8,f7,f6,f5,f4,f3,f2,f1,f0,e9,e6,e4,d9,d8,m1,m0,l8,l3,l1,l0,k4,k3,k1,k0,j5,j4,j3,j2,j1,i9,i8,i5,d7,d6,t51,t52,t53,rfl,S⟩ hi ho;obtain⟨h9,o',v0,B⟩:=iM.1 hi;rw[ho]at v0;cases v0;have aS:i<5:=(gD.1 ho).1;have i2:=hx.1;clear hi;generalize R:(fun a' w'=>EH g (w.heap.size) b 0 v n (p') (sv s.t.k s.t.n (.slice J s.t.len G) (.slice I s.K.length c1) (.slice D s.f.length c2) (.slice H s.d.length c3)) #[.int .i64 s.t.k,.int .i64 s.t.n,.slice J s.t.len G,.slice I s.K.length c1,.slice D s.f.length c2,.slice H s.d.length c3] 0 0 w wr (L.setIfInBounds i true) a' w')=K;obtain rfl|rfl|rfl|rfl|rfl:i=0\/i=1\/i=2\/i=3\/i=4:=by omega
    ·cases ho;obtain⟨x0,x1,x2,x3,x4,x5⟩:=(b9.out _ hx).ae;go_simp;subst R;exact k6 A hx T (S.aw rfl)
    ·cases ho;go_simp;subst R;exact k6 A hx T (S.au rfl)
    ·cases ho;have e1:=S.s1 (B ⟨1,.data⟩ (by simp) rfl);subst e1;have h3:=S.rd h9;go_simp;refine (wT h3 (by omega) (by omega)).mono ?_;rintro e W1 ⟨X,Y,rfl,_,_,_,_,_,y2⟩;subst R;exact k6 A ⟨mO hx.1 y2.size,fun z h1 h2 h3 h4=>(y2.block z (by omega) h1).trans (hx.2 z h1 h2 h3 h4)⟩ (y2.below T T.size (by omega)) (S.ar A h9 q3 y2 ⟨X,Y,rfl⟩)
    ·cases ho;have e0:=S.s0 (B ⟨0,.data⟩ (by simp) rfl);have l2:=B ⟨2,.chain⟩ (by simp) rfl;have Z:=S.z6 h9;subst e0;have p1:=Z.free 0;have y0:=Z.set 0 (.int .i64 s.t.k);have o9:=y0.free 1;have x9:=y0.set 1 (.int .i64 s.t.n);have o8:=x9.free 2;have x8:=x9.set 2 (.slice J s.t.len G);have o7:=x8.free 3;have x7:=x8.set 3 (.slice I s.K.length c1);have o6:=x7.free 4;have x6:=x7.set 4 (.slice D s.f.length c2);have o5:=x6.free 5;have y5:=x6.set 5 (.slice H s.d.length c3);have sN:Bk ((((((W.setCell ⟨w.heap.size,0,none⟩ (.int .i64 s.t.k)).setCell ⟨w.heap.size,1,none⟩ (.int .i64 s.t.n)).setCell ⟨w.heap.size,2,none⟩ (.slice J s.t.len G)).setCell ⟨w.heap.size,3,none⟩ (.slice I s.K.length c1)).setCell ⟨w.heap.size,4,none⟩ (.slice D s.f.length c2)).setCell ⟨w.heap.size,5,none⟩ (.slice H s.d.length c3)) (w.heap.size) #[.int .i64 s.t.k,.int .i64 s.t.n,.slice J s.t.len G,.slice I s.K.length c1,.slice D s.f.length c2,.slice H s.d.length c3] 30:=y5;obtain⟨o4,o3,o2,o0,n6,n5⟩:=Z.ae;obtain⟨a5,a4,w9,w8,w7,v9⟩:=sN.ae;have Q:∀z,z≠w.heap.size->((((((W.setCell ⟨w.heap.size,0,none⟩ (.int .i64 s.t.k)).setCell ⟨w.heap.size,1,none⟩ (.int .i64 s.t.n)).setCell ⟨w.heap.size,2,none⟩ (.slice J s.t.len G)).setCell ⟨w.heap.size,3,none⟩ (.slice I s.K.length c1)).setCell ⟨w.heap.size,4,none⟩ (.slice D s.f.length c2)).setCell ⟨w.heap.size,5,none⟩ (.slice H s.d.length c3)).heap[z]?=W.heap[z]?:=fun z M=>(((((fM _ _ _ _ M).trans (fM _ _ _ _ M)).trans (fM _ _ _ _ M)).trans (fM _ _ _ _ M)).trans (fM _ _ _ _ M)).trans (fM _ _ _ _ M);clear y0 x9 x8 x7 x6 y5;have y7:Hid (Ah g (w.heap.size) wr ((((((W.setCell ⟨w.heap.size,0,none⟩ (.int .i64 s.t.k)).setCell ⟨w.heap.size,1,none⟩ (.int .i64 s.t.n)).setCell ⟨w.heap.size,2,none⟩ (.slice J s.t.len G)).setCell ⟨w.heap.size,3,none⟩ (.slice I s.K.length c1)).setCell ⟨w.heap.size,4,none⟩ (.slice D s.f.length c2)).setCell ⟨w.heap.size,5,none⟩ (.slice H s.d.length c3))):=⟨by simp;exact hx.1,fun z h1 h2 h3 h4=>(Q z h2).trans (hx.2 z h1 h2 h3 h4)⟩;have y6:Hid (jB w.heap.size w ((((((W.setCell ⟨w.heap.size,0,none⟩ (.int .i64 s.t.k)).setCell ⟨w.heap.size,1,none⟩ (.int .i64 s.t.n)).setCell ⟨w.heap.size,2,none⟩ (.slice J s.t.len G)).setCell ⟨w.heap.size,3,none⟩ (.slice I s.K.length c1)).setCell ⟨w.heap.size,4,none⟩ (.slice D s.f.length c2)).setCell ⟨w.heap.size,5,none⟩ (.slice H s.d.length c3))):=((((((T.setCell (jO _) _).setCell (jO _) _).setCell (jO _) _).setCell (jO _) _).setCell (jO _) _).setCell (jO _) _);have y4:=S.aq l2 A Q sN;clear Q sN a5 a4 w9 w8 w7 v9;go_simp;generalize ((((((W.setCell ⟨w.heap.size,0,none⟩ (.int .i64 s.t.k)).setCell ⟨w.heap.size,1,none⟩ (.int .i64 s.t.n)).setCell ⟨w.heap.size,2,none⟩ (.slice J s.t.len G)).setCell ⟨w.heap.size,3,none⟩ (.slice I s.K.length c1)).setCell ⟨w.heap.size,4,none⟩ (.slice D s.f.length c2)).setCell ⟨w.heap.size,5,none⟩ (.slice H s.d.length c3))=WX at*;subst R;exact k6 A y7.out y6.out y4
    ·cases ho;have lt:=(B ⟨2,.data⟩ (by simp) rfl);obtain⟨X,Y,et⟩:=S.s2 lt;have Z:=S.z2 h9;have r8:Hid (t53=tv X Y):=et;have cM:=Z.free 0;have z5:=Z.set 0 (.int .i64 X);have cL:=z5.free 1;have b5:=z5.set 1 (.int .i64 Y);have uN:Bk ((W.setCell ⟨w.heap.size+1,0,none⟩ (.int .i64 X)).setCell ⟨w.heap.size+1,1,none⟩ (.int .i64 Y)) (w.heap.size+1) #[.int .i64 X,.int .i64 Y] 32:=b5;obtain⟨cI,cF,_,_⟩:=Z.two;have y1:∀z,z≠w.heap.size+1->((W.setCell ⟨w.heap.size+1,0,none⟩ (.int .i64 X)).setCell ⟨w.heap.size+1,1,none⟩ (.int .i64 Y)).heap[z]?=W.heap[z]?:=fun z M=>(fM _ _ _ _ M).trans (fM _ _ _ _ M);clear z5 b5;have b7:w.heap.size<=w.heap.size+1:=by omega
     have y7:Hid (Ah g (w.heap.size) wr ((W.setCell ⟨w.heap.size+1,0,none⟩ (.int .i64 X)).setCell ⟨w.heap.size+1,1,none⟩ (.int .i64 Y))):=⟨by simp;exact hx.1,fun z h1 h2 h3 h4=>(y1 z h3).trans (hx.2 z h1 h2 h3 h4)⟩;have y6:Hid (jB w.heap.size w ((W.setCell ⟨w.heap.size+1,0,none⟩ (.int .i64 X)).setCell ⟨w.heap.size+1,1,none⟩ (.int .i64 Y))):=((T.setCell (p:=⟨w.heap.size+1,0,none⟩) b7 _).setCell (p:=⟨w.heap.size+1,1,none⟩) b7 _);have y4:=S.be lt A r8.out y1 uN;clear y1 uN;subst et;go_simp;generalize ((W.setCell ⟨w.heap.size+1,0,none⟩ (.int .i64 X)).setCell ⟨w.heap.size+1,1,none⟩ (.int .i64 Y))=WX at*;subst R;exact k6 A y7.out y6.out y4
   case hend=>
    rintro L a W ⟨A,hx,T,z0,z1,z6,z7,z8,z9,n3,m5,m4,m3,m2,g1,g0,f8,f7,f6,f5,f4,f3,f2,f1,f0,e9,e6,e4,d9,d8,m1,m0,l8,l3,l1,l0,k4,k3,k1,k0,j5,j4,j3,j2,j1,i9,i8,i5,d7,d6,t51,t52,t53,rfl,S⟩ hr;have U:∀j,j<5->L.getD j false=true:=by
     refine jC (by simpa using A) ?_ hr;intro i o ho;have hi:i<5:=(gD.1 ho).1;obtain rfl|rfl|rfl|rfl|rfl:i=0\/i=1\/i=2\/i=3\/i=4:=by omega
     all_goals cases ho
     all_goals (first|(simp;done)|(simp[nA];done)|decide)
    have bN:=S.s3 (U 3 (by omega));obtain⟨X,Y,-,bT⟩:=S.s4 (U 4 (by omega));have r7:Hid (gE W (.slice J s.t.len G) (.slice I s.K.length c1) (.slice D s.f.length c2) (.slice H s.d.length c3) s):=c4.out W hx;have t6:Hid (jB w.heap.size w W):=T;obtain⟨r0,r1,r2,r3,r4,r5⟩:=bN.ae;obtain⟨q0,q1,_,_⟩:=bT.two;clear U S hr bN bT hx;go_wp2_with fail;refine iP (v:= .tuple #[(sv s.t.k s.t.n (.slice J s.t.len G) (.slice I s.K.length c1) (.slice D s.f.length c2) (.slice H s.d.length c3)),tv X Y]) (by simp[results,Tryz.results14,go_sem,r0,r1,r2,r3,r4,r5,q0,q1];try rfl) rfl ?_;exact⟨s,_,_,_,_,X,Y,rfl,HD.out,r7.out,t6.out⟩
end Go.Proofs.YtbdpcngcbnoioaaGreatDoor
