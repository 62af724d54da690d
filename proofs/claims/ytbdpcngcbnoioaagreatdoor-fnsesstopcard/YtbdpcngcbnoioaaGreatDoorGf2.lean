import Derived.Test.YtbdpcngcbnoioaaGreatDoorGf1
import Derived.Test.YtbdpcngcbnoioaaGreatDoorGt10
set_option maxRecDepth 100000
set_option maxHeartbeats 32000000
namespace Go.Proofs.YtbdpcngcbnoioaaGreatDoor
open Go.RowKit Go.Shelf
open Go.ChangeMaps (setBlock)
open Go renaming Value->fM,World->fQ,callsIn_wide->gD,CallsIn->gM,Calls->gQ,bodyPost_ret->gX,KeepsFrom->iM,Fence->iP
open Go.Proofs.Tryz renaming prog->jB,results148->jO,ntmps148->mO,func148->nA
open Go.RowKit renaming Below->nB
open Go.CallsIn renaming mono->nT,inRound->nX
open Go.RowKit.Below renaming refl->oU
open _root_.Array renaming getElem?_eq_some_iff->oW
open Go.Fence renaming wide->pU
variable {G1:fQ->fM->Prop}{G2:fQ->Prop}{L:Array Bool}{W W' w w0:fQ}{X Y kind:Int}{c1 wb:Nat}{fv g1 rv t10 t11 t12 t13 t14 t15 t16 t17 t18 u v:fM}
theorem Lw {m a:Nat}{P:Program}{l:Nat}{args:Array fM}{R:Ending->fQ->Prop}(h:YieldAt pU m P l args W R):YieldAt pU a P l args W R:=by
 obtain⟨g,tmps,assign,body,h1,h2,h3⟩:=h;exact⟨g,tmps,assign,body,h1,h2,fun c s _=>h3 c s (room_wide _)⟩
theorem PQ {α:Type}{m k:Nat}{P:Program}{g:Nat}{lb:Array fM}{s:α->Array fM}{S:List α->Prop}{B:List α->α->Prop}{N:Nat}(n:Nat)(h:EA m pU k P g lb s S B N w):EA m pU n P g lb s S B N w:=
 fun l J W h1 h2 h3 h4=>gD.2 (gD.1 (h l J W h1 h2 (fun A x D a b c=>Lw (h3 A x D a b c)) h4))
theorem Kx.aD {N a:Nat}(h:nB W.heap.size W W')(s:N<=W.heap.size):Kx N a W W':=⟨h.size,fun k g _=>h.block k (by omega)⟩
theorem Pk (e:w.heap.size=wb)(h:nB wb w W)(a:nB W.heap.size W W'):nB wb w W':=by
 subst e;exact aG h a
def Cl (kind:Int)(l:List Rw)(wb:Nat)(w W0:fQ)(pre:LI)(W:fQ):Prop:=
 (∃v:fM,Bk W (wb+1+1) #[v] 28/\aC W W0.heap.size v (eW kind l pre))/\nB wb w W/\Kx W0.heap.size (wb+1+1) W0 W
theorem OI {l:List Rw}{W0:fQ}{g:LI}{A B:fQ}{a:Option Nat}(hs:Cl kind l wb w W0 g A)(hg:A.grownBy B a)(hr:∀r,a=some r->W0.heap.size<=r/\∃o,A.heap[r]?=some o/\o.isCells=false)(hm:wb+1+1<W0.heap.size):Cl kind l wb w W0 g B:=by
 obtain⟨⟨v,h1,h2⟩,h5,h6⟩:=hs;have D:=h6.size;have hne:∀{k:Nat}{c:Array fM}{t:TypeId},Bk A k c t->∀r,a=some r->k≠r:=fun H r e s=>by
  obtain⟨_,o,h8,J⟩:=hr r e;subst s;unfold Bk at H;rw[H]at h8;cases h8;cases J
 refine⟨⟨v,Bk.aU h1 hg (hne h1),fB h2 fun q e=>hg.block q (oT h2 q e) (fun s=>?_)⟩,?_,⟨Nat.le_trans D hg.size,fun k I hm=>?_⟩⟩
 ·obtain⟨c,G⟩:=iQ h2 e;exact hne G q s.symm rfl
 ·have:=h1.lt;exact Below.aU h5 hg (by omega) (fun r e=>by have:=(hr r e).1;omega)
 ·rw[hg.block k (by omega) (fun e=>by have:=(hr k e.symm).1;omega)];exact h6.block k I hm
theorem Pl {l:List Rw}{W0:fQ}{g:LI}{A B:fQ}(hs:Cl kind l wb w W0 g A)(hi:tP W0.heap.size (wb+1+1) A B)(hm:wb+1+1<W0.heap.size):Cl kind l wb w W0 g B:=by
 obtain⟨⟨v,h1,h2⟩,h5,h6⟩:=hs;refine⟨⟨v,?_,fB h2 fun q e=>hi.arr q (by rw[iO h1];exact e)⟩,⟨hi.os.trans h5.os,hi.tape.trans h5.tape,hi.output.trans h5.output,Nat.le_trans h5.size hi.size,fun k a=>(hi.low k (by omega)).trans (h5.block k a)⟩,⟨Nat.le_trans h6.size hi.size,fun k a hn=>(hi.low k a).trans (h6.block k a hn)⟩⟩;unfold Bk;rw[hi.low _ hm];exact h1
theorem Lh (s:List It):kH s=dE 1 s:=by simp[dE]
theorem Nd (s:List It):mM s=dE 2 s:=by simp[dE]
theorem Lk (s:List It):jV s=dE 3 s:=by simp[dE]
theorem Jf {a:Nat}{l:List Rw}(H:TypeId)(s:aC W a v l){m:List Rw}(S:Rs W u m)(hl:l.length+m.length<=2000000)(D:a<=W.heap.size):
  ∃(o:fM)(W':fQ),(Builtin.append_ #[28,28] H #[v,u]).run jB W=.ok o W'/\aC W' a o (l++m)/\W.grownBy W' v.ownBlock/\(o.ownBlock=v.ownBlock\/∃q,o.ownBlock=some q/\W.heap.size<=q/\q<W'.heap.size):=by
 obtain⟨i0,hi,R,Q,O⟩:=info_parts rU;obtain⟨ad,G,rfl,I⟩:=Fi S
 by_cases A:m=[]
 ·subst A;exact⟨v,W,AR s ad G H,by simpa using s,⟨rfl,rfl,rfl,Nat.le_refl _,fun _ _ _=>rfl⟩,.inl rfl⟩
 ·obtain⟨g,off,rfl,B⟩:=I A;have J:0<m.length:=List.length_pos_iff.2 A;obtain⟨T,U,M,h1,h2,h3,h4,h5⟩:=run_append_lies (P:=jB) (w:=W) 28 H a 55 i0 _ 5 40 Tryz.underlying28 hi R Q O rfl (by decide) v l.length (l.flatMap iE) s ⟨g,off,none⟩ m.length G (m.flatMap iE) (lH jP m) B (FO m) J (by unfold maxLen;omega) (by omega) D W.heap.size rfl;refine⟨_,M,h1,?_,h3,?_⟩
  ·show M.ownsRow _ _ _ _ _ _
   rw[List.flatMap_append,List.length_append];exact h2
  ·rcases h4 with h4|h4
   ·exact .inl h4.symm
   ·exact .inr ⟨T,rfl,by omega,h5⟩
structure jZ (kind:Int)(l D:List Rw)(rv fv v:fM)(X Y:Int)(L:Array Bool)(W:fQ)(t10 t11 t12 t13 t14 t15 t16 t17 t18:fM):Prop where
 s0:L.getD 0 false=true->t10=v
 s1:L.getD 1 false=true->t11=v
 s2:L.getD 2 false=true->t12=tv X Y
 s3:L.getD 3 false=true->t13=fv
 s4:L.getD 4 false=true->t14=rv
 s5:L.getD 5 false=true->t15=tv X Y
 s6:L.getD 6 false=true->Is W t16 (aM l X Y)
 s7:L.getD 7 false=true->Is W t17 (dE kind (aM l X Y))
 s8:L.getD 8 false=true->Rs W t18 D
theorem jZ.keep {l D:List Rw}(h:jZ kind l D rv fv v X Y L W t10 t11 t12 t13 t14 t15 t16 t17 t18)(a:nB W.heap.size W W'):jZ kind l D rv fv v X Y L W' t10 t11 t12 t13 t14 t15 t16 t17 t18 where
 s0:=h.s0
 s1:=h.s1
 s2:=h.s2
 s3:=h.s3
 s4:=h.s4
 s5:=h.s5
 s6:=fun e=>(h.s6 e).keep a
 s7:=fun e=>(h.s7 e).keep a
 s8:=fun e=>(h.s8 e).keep a
theorem jZ.aw {l D:List Rw}(h:jZ kind l D rv fv v X Y L W t10 t11 t12 t13 t14 t15 t16 t17 t18)(a:u=v):jZ kind l D rv fv v X Y (L.setIfInBounds 0 true) W u t11 t12 t13 t14 t15 t16 t17 t18 where
 s0:=fun _=>a
 s1:=fun e=>h.s1 (gS e)
 s2:=fun e=>h.s2 (gS e)
 s3:=fun e=>h.s3 (gS e)
 s4:=fun e=>h.s4 (gS e)
 s5:=fun e=>h.s5 (gS e)
 s6:=fun e=>h.s6 (gS e)
 s7:=fun e=>h.s7 (gS e)
 s8:=fun e=>h.s8 (gS e)
theorem jZ.au {l D:List Rw}(h:jZ kind l D rv fv v X Y L W t10 t11 t12 t13 t14 t15 t16 t17 t18)(a:u=v):jZ kind l D rv fv v X Y (L.setIfInBounds 1 true) W t10 u t12 t13 t14 t15 t16 t17 t18 where
 s0:=fun e=>h.s0 (gS e)
 s1:=fun _=>a
 s2:=fun e=>h.s2 (gS e)
 s3:=fun e=>h.s3 (gS e)
 s4:=fun e=>h.s4 (gS e)
 s5:=fun e=>h.s5 (gS e)
 s6:=fun e=>h.s6 (gS e)
 s7:=fun e=>h.s7 (gS e)
 s8:=fun e=>h.s8 (gS e)
theorem jZ.ar {l D:List Rw}(h:jZ kind l D rv fv v X Y L W t10 t11 t12 t13 t14 t15 t16 t17 t18)(a:u=tv X Y):jZ kind l D rv fv v X Y (L.setIfInBounds 2 true) W t10 t11 u t13 t14 t15 t16 t17 t18 where
 s0:=fun e=>h.s0 (gS e)
 s1:=fun e=>h.s1 (gS e)
 s2:=fun _=>a
 s3:=fun e=>h.s3 (gS e)
 s4:=fun e=>h.s4 (gS e)
 s5:=fun e=>h.s5 (gS e)
 s6:=fun e=>h.s6 (gS e)
 s7:=fun e=>h.s7 (gS e)
 s8:=fun e=>h.s8 (gS e)
theorem jZ.aq {l D:List Rw}(h:jZ kind l D rv fv v X Y L W t10 t11 t12 t13 t14 t15 t16 t17 t18)(a:u=fv):jZ kind l D rv fv v X Y (L.setIfInBounds 3 true) W t10 t11 t12 u t14 t15 t16 t17 t18 where
 s0:=fun e=>h.s0 (gS e)
 s1:=fun e=>h.s1 (gS e)
 s2:=fun e=>h.s2 (gS e)
 s3:=fun _=>a
 s4:=fun e=>h.s4 (gS e)
 s5:=fun e=>h.s5 (gS e)
 s6:=fun e=>h.s6 (gS e)
 s7:=fun e=>h.s7 (gS e)
 s8:=fun e=>h.s8 (gS e)
theorem jZ.be {l D:List Rw}(h:jZ kind l D rv fv v X Y L W t10 t11 t12 t13 t14 t15 t16 t17 t18)(a:u=rv):jZ kind l D rv fv v X Y (L.setIfInBounds 4 true) W t10 t11 t12 t13 u t15 t16 t17 t18 where
 s0:=fun e=>h.s0 (gS e)
 s1:=fun e=>h.s1 (gS e)
 s2:=fun e=>h.s2 (gS e)
 s3:=fun e=>h.s3 (gS e)
 s4:=fun _=>a
 s5:=fun e=>h.s5 (gS e)
 s6:=fun e=>h.s6 (gS e)
 s7:=fun e=>h.s7 (gS e)
 s8:=fun e=>h.s8 (gS e)
theorem jZ.cb {l D:List Rw}(h:jZ kind l D rv fv v X Y L W t10 t11 t12 t13 t14 t15 t16 t17 t18)(a:u=tv X Y):jZ kind l D rv fv v X Y (L.setIfInBounds 5 true) W t10 t11 t12 t13 t14 u t16 t17 t18 where
 s0:=fun e=>h.s0 (gS e)
 s1:=fun e=>h.s1 (gS e)
 s2:=fun e=>h.s2 (gS e)
 s3:=fun e=>h.s3 (gS e)
 s4:=fun e=>h.s4 (gS e)
 s5:=fun _=>a
 s6:=fun e=>h.s6 (gS e)
 s7:=fun e=>h.s7 (gS e)
 s8:=fun e=>h.s8 (gS e)
theorem jZ.ca {l D:List Rw}(h:jZ kind l D rv fv v X Y L W t10 t11 t12 t13 t14 t15 t16 t17 t18)(a:Is W u (aM l X Y)):jZ kind l D rv fv v X Y (L.setIfInBounds 6 true) W t10 t11 t12 t13 t14 t15 u t17 t18 where
 s0:=fun e=>h.s0 (gS e)
 s1:=fun e=>h.s1 (gS e)
 s2:=fun e=>h.s2 (gS e)
 s3:=fun e=>h.s3 (gS e)
 s4:=fun e=>h.s4 (gS e)
 s5:=fun e=>h.s5 (gS e)
 s6:=fun _=>a
 s7:=fun e=>h.s7 (gS e)
 s8:=fun e=>h.s8 (gS e)
theorem jZ.cZ {l D:List Rw}(h:jZ kind l D rv fv v X Y L W t10 t11 t12 t13 t14 t15 t16 t17 t18)(a:Is W u (dE kind (aM l X Y))):jZ kind l D rv fv v X Y (L.setIfInBounds 7 true) W t10 t11 t12 t13 t14 t15 t16 u t18 where
 s0:=fun e=>h.s0 (gS e)
 s1:=fun e=>h.s1 (gS e)
 s2:=fun e=>h.s2 (gS e)
 s3:=fun e=>h.s3 (gS e)
 s4:=fun e=>h.s4 (gS e)
 s5:=fun e=>h.s5 (gS e)
 s6:=fun e=>h.s6 (gS e)
 s7:=fun _=>a
 s8:=fun e=>h.s8 (gS e)
theorem jZ.cN {l D:List Rw}(h:jZ kind l D rv fv v X Y L W t10 t11 t12 t13 t14 t15 t16 t17 t18)(a:Rs W u D):jZ kind l D rv fv v X Y (L.setIfInBounds 8 true) W t10 t11 t12 t13 t14 t15 t16 t17 u where
 s0:=fun e=>h.s0 (gS e)
 s1:=fun e=>h.s1 (gS e)
 s2:=fun e=>h.s2 (gS e)
 s3:=fun e=>h.s3 (gS e)
 s4:=fun e=>h.s4 (gS e)
 s5:=fun e=>h.s5 (gS e)
 s6:=fun e=>h.s6 (gS e)
 s7:=fun e=>h.s7 (gS e)
 s8:=fun _=>a
def JZ (kind:Int)(l D:List Rw)(rv fv v:fM)(wb c1:Nat)(g1:fM)(X Y:Int)(G1:fQ->fM->Prop)(G2:fQ->Prop)(w0:fQ)(L:Array Bool)(a:Act)(W:fQ):Prop:=
 L.size=11/\(L.getD 9 true=false->nB w0.heap.size w0 W)/\(L.getD 10 false=true->G2 W)/\∃t10 t11 t12 t13 t14 t15 t16 t17 t18 t19:fM,
  a={ tmps:=#[rv,fv,.pointer (some ⟨wb,0,none⟩),.pointer (some ⟨wb+1,0,none⟩),.slice none 0 0,.pointer (some ⟨wb+1+1,0,none⟩),.pointer (some ⟨c1,0,none⟩),rv,g1,tv X Y,t10,t11,t12,t13,t14,t15,t16,t17,t18,t19,undef],defers:=[] }/\(L.getD 9 false=true->L.getD 10 true=false->G1 W t19)/\(L.getD 9 true=false->jZ kind l D rv fv v X Y L W t10 t11 t12 t13 t14 t15 t16 t17 t18)
theorem lY {l D:List Rw}{a:fM}{i:Nat}(hi:i<9)(g:L.size=11)(B:L.getD 9 true=false)(s:L.getD 10 true=false)(A:nB w0.heap.size w0 W)(S:jZ kind l D rv fv v X Y (L.setIfInBounds i true) W t10 t11 t12 t13 t14 t15 t16 t17 t18):
  JZ kind l D rv fv v wb c1 g1 X Y G1 G2 w0 (L.setIfInBounds i true) { tmps:=#[rv,fv,.pointer (some ⟨wb,0,none⟩),.pointer (some ⟨wb+1,0,none⟩),.slice none 0 0,.pointer (some ⟨wb+1+1,0,none⟩),.pointer (some ⟨c1,0,none⟩),rv,g1,tv X Y,t10,t11,t12,t13,t14,t15,t16,t17,t18,a,undef],defers:=[] } W:=
 ⟨by simp[g],fun _=>A,fun e=>by rw[k8 (by omega)]at e;exact absurd e (by simp[lR s (by omega)]),_,_,_,_,_,_,_,_,_,_,rfl,fun e=>by rw[k8 (by omega)]at e;exact absurd e (by simp[lR B (by omega)]),fun _=>S⟩
theorem OJ {l D:List Rw}(a:L.size=11)(g:L.getD 10 true=false)(s:G1 W u):
  JZ kind l D rv fv v wb c1 g1 X Y G1 G2 w0 (L.setIfInBounds 9 true) { tmps:=#[rv,fv,.pointer (some ⟨wb,0,none⟩),.pointer (some ⟨wb+1,0,none⟩),.slice none 0 0,.pointer (some ⟨wb+1+1,0,none⟩),.pointer (some ⟨c1,0,none⟩),rv,g1,tv X Y,t10,t11,t12,t13,t14,t15,t16,t17,t18,u,undef],defers:=[] } W:=
 ⟨by simp[a],fun e=>by simp[a]at e,fun e=>by rw[k8 (by omega)]at e;exact absurd e (by simp[lR g (by omega)]),_,_,_,_,_,_,_,_,_,_,rfl,fun _ _=>s,fun e=>by simp[a]at e⟩
theorem OK {l D:List Rw}{s:fM}(g:L.size=11)(a:L.getD 9 false=true)(A:G2 W):
  JZ kind l D rv fv v wb c1 g1 X Y G1 G2 w0 (L.setIfInBounds 10 true) { tmps:=#[rv,fv,.pointer (some ⟨wb,0,none⟩),.pointer (some ⟨wb+1,0,none⟩),.slice none 0 0,.pointer (some ⟨wb+1+1,0,none⟩),.pointer (some ⟨c1,0,none⟩),rv,g1,tv X Y,t10,t11,t12,t13,t14,t15,t16,t17,t18,s,undef],defers:=[] } W:=
 ⟨by simp[g],fun e=>(by rw[k8 (by omega)]at e;rw[lR e (by omega)]at a;cases a),fun _=>A,_,_,_,_,_,_,_,_,_,_,rfl,fun _ e=>by simp[g]at e,fun e=>(by rw[k8 (by omega)]at e;rw[lR e (by omega)]at a;cases a)⟩
open Go.ChangeMaps (setBlock)
attribute [local go_sem] Oper.semAt_some
theorem GO (kind:Int)(fn:Nat)(eg:∀args w,(callFunc fn args).run jB w=.ok (.enter fn args) w)(z8:∀(v:fM)(s:List It)(W:fQ),Is W v s->gQ jB fn #[v] W fun e w'=>∃o:fM,e=.returned o/\aQ w' W.heap.size o (dE kind s)/\nB W.heap.size W w')
  (a:Option Addr) (J:Nat) (l:List Rw) (w:fQ) (hk:aZ l=true) (v9:Rs w (.slice a l.length J) l):
  gM pU 6 jB 224 #[.slice a l.length J,.func (.func fn) #[] #[]] w fun e w'=>∃o:fM,e=.returned o/\aC w' w.heap.size o (fD kind l)/\nB w.heap.size w w':=by
 have a6:=(show Hid _ from z8);have m4:=i6 hk;have HH:Hid (Rs w (.slice a l.length J) l):=v9;refine callsIn_of_wp_marks Tryz.func224 rfl trivial ?_ rfl;simp only[Tryz.ntmps224,List.size_toArray,List.length_cons,List.length_nil,Nat.reduceAdd,Nat.reduceSub,Array.replicate_succ,Array.replicate_zero,List.push_toArray,List.append_toArray,List.nil_append,List.cons_append]
 gi_wp2
 refine⟨trivial,?_⟩;refine nT (gD.2 (BH _ _ _ _)) ?_;rintro e W0 ⟨rfl,y2⟩;have w4:Bk W0 w.heap.size #[.slice a l.length J] 28:=by
  rw[y2];exact ((((Bk.new (w:=w) _ _ rfl).alloc _).alloc _).alloc _)
 have w3:Bk W0 (w.heap.size+1) #[.func (.func fn) #[] #[]] 152:=by
  rw[y2];exact ((Bk.new (w:=w.alloc _) _ _ (by simp)).alloc _).alloc _
 have v2:Bk W0 (w.heap.size+1+1) #[.slice none 0 0] 28:=by
  rw[y2];exact (Bk.new (w:=(w.alloc _).alloc _) _ _ (by simp)).alloc _
 have w5:Bk W0 (w.heap.size+1+1+1) #[.slice a l.length J] 28:=by
  rw[y2];have:=Bk.new (w:=((w.alloc (.cells #[.slice a l.length J] 28)).alloc (.cells #[.func (.func fn) #[] #[]] 152)).alloc (.cells #[.slice none 0 0] 28)) #[.slice a l.length J] 28 (k:=w.heap.size+1+1+1) (by simp);exact this
 have b6:W0.heap.size=w.heap.size+1+1+1+1:=by rw[y2];simp
 have z9:nB w.heap.size w W0:=by rw[y2];exact aH (aH (aH (aH (oU _ _) _) _) _) _
 clear y2 v9 z8;have v8:cD W0 (w.heap.size+1+1)=none:=by rw[iO v2];rfl
 have R0:=HH.out.keep z9
 gi_wp2
 generalize v4:w.heap.size=wb at*;have n4:Hid (W0.heap.size=wb+1+1+1+1):=b6;have z4:Hid (w.heap.size=wb):=v4;clear v4;have y4:wb+1+1<W0.heap.size:=by omega
 refine zV (n:=6) (m:=wb+1+1) (w0:=W0) rfl (by omega) (gf:=261) (lb:=#[.pointer (some ⟨wb+1+1+1,0,none⟩)]) rfl trivial (enters_of Tryz.func261 (by kernel_rfl) rfl)
  (PQ 5 (Im (wb+1+1+1) (wb+1+1) a J l W0 hk R0 w5 y4 (fun q e=>by rw[v8]at e;cases e))) y4 (oU _ _) (fun _=>rfl)
  (fun H W=>Cl kind l wb w W0 H W)
  (fun H A B a7 hs hg hr=>OI hs hg hr y4)
  (fun H A B hs hi=>Pl hs hi y4)
  ⟨⟨_,v2,oN _ _ _ _ _⟩,z9,Kx.refl _ _ _⟩
  (fun t a' W=>∃c1:Nat,W0.heap.size<=c1/\Bk W c1 #[.int .i64 t.1,.int .i64 t.2] 32 /\
   a'={ tmps:=#[.slice a l.length J,.func (.func fn) #[] #[],.pointer (some ⟨wb,0,none⟩),.pointer (some ⟨wb+1,0,none⟩),.slice none 0 0,.pointer (some ⟨wb+1+1,0,none⟩),.pointer (some ⟨c1,0,none⟩),.slice a l.length J,.func (.func 261) #[] #[.pointer (some ⟨wb+1+1+1,0,none⟩)],tv t.1 t.2,undef,undef,undef,undef,undef,undef,undef,undef,undef,undef,undef],defers:=[] })
  (fun t a' _ A B a7 hs hg hr=>by
   obtain⟨c1,h1,h3,h7⟩:=hs;exact⟨c1,h1,Bk.aU h3 hg (fun r e e'=>by
    obtain⟨_,o,h8,g⟩:=hr r e;subst e';unfold Bk at h3;rw[h3]at h8;cases h8;cases g),h7⟩)
  ?assign ?body ?done
 case assign=>
  rintro lq H t W K ⟨⟨v,h1,h2⟩,h5,h6⟩ hK;have y5:nB W.heap.size W (W.alloc (.cells #[.int .i64 t.1,.int .i64 t.2] 32)):=aH (oU _ _) _;have z1:=h6.size
  gi_wp2
  refine hK _ _ ((KeepsOthers.alloc _ _).from _) (j8.below y5 h1.lt) ⟨⟨v,h1.keep y5,cC h2 y5⟩,Pk z4.out h5 y5,h6.trans (Kx.aD y5 z1)⟩ ⟨W.heap.size,z1,Bk.new _ _ rfl,rfl⟩
 case body=>
  rintro lq H ⟨X,Y⟩ a' Wb m3 ⟨rq,b7⟩ hI ⟨c1,m5,k1,rfl⟩ m2 d0;simp only at k1;obtain⟨⟨v,h1,h2⟩,h5,h6⟩:=hI;obtain⟨n,hn,y8,v6⟩:=d0;have d9:Hid ((jT l)[n]?=some (X,Y)):=by
   show _=_
   rw[List.getElem?_eq_getElem hn,<-v6];simp[gt,List.getD_eq_getElem?_getD,List.getElem?_eq_getElem hn]
  have w6:Hid (eW kind l (H++[(X,Y)])=eW kind l H++iD (X,Y) (fS kind l (X,Y))):=Cz kind l H (X,Y);have w7:Hid (∀L:List It,(∀v,aK L v=aK (dE kind (aM l X Y)) v-aK (c9 (eW kind l H) X Y) v)->aO bJ L=fS kind l (X,Y)):=fun L hL=>F8 kind hk d9.out (by rw[<- y8];exact hL);have g0:Hid (∀r∈eW kind l H,dG r=true /\ -2<=r.2/\r.2<=2):=fun r hr=>wE (fun t ht=>by rw[y8]at ht;exact Hm ht) hr;have x5:(eW kind l H).length<=102400:=by have:=sS kind l H;omega
  have z1:=h6.size;have bA:Bk Wb wb #[.slice a l.length J] 28:=by unfold Bk;rw[h6.block wb (by omega) (by omega)];exact w4
  have bF:Bk Wb (wb+1) #[.func (.func fn) #[] #[]] 152:=by unfold Bk;rw[h6.block (wb+1) (by omega) (by omega)];exact w3
  have Rl:Rs Wb (.slice a l.length J) l:=HH.out.keep (by rw[z4.out];exact h5);have H6:=(show Hid (Kx W0.heap.size (wb+1+1) W0 Wb) from h6);have H5:=(show Hid (nB wb w Wb) from h5);have w8:Hid ((fS kind l (X,Y)).length<=1600):=Bv kind l (X,Y);have c4:=Ak kind (cO l X Y);have e9:Hid (aJ (dE kind (aM l X Y))<=400):=by
   have:=Ar (m:=dE kind (aM l X Y)) (fun r hr=>uP (cO l X Y) hr)
   show _<=_;omega
  have f0:Hid (lK (eW kind l H) X Y (dE kind (aM l X Y))=fS kind l (X,Y)):=w7.out _ fun v=>by rw[eI,yQ];omega
  have g2:Hid (∀(W1:fQ)(u:fM),nB Wb.heap.size Wb W1->Rs W1 u (iD (X,Y) (fS kind l (X,Y)))->∃(o:fM)(W':fQ),(Builtin.append_ #[28,28] 28 #[v,u]).run jB W1=.ok o W'/\(∃(q:Option Addr)(n c:Nat),o=.slice q n c)/\W'.frozen? ⟨wb+1+1,0,none⟩=false/\W'.cell? ⟨wb+1+1,0,none⟩=some v/\iM W0.heap.size Wb (W'.setCell ⟨wb+1+1,0,none⟩ o)/\j8 (wb+1+1) Wb (W'.setCell ⟨wb+1+1,0,none⟩ o)/\Cl kind l wb w W0 (H++[(X,Y)]) (W'.setCell ⟨wb+1+1,0,none⟩ o)):=fun W1 u G hu=>by
   have x3:=cC h2 G;have m0:(iD (X,Y) (fS kind l (X,Y))).length<=1600:=by rw[uM];exact w8.out
   obtain⟨o,W',e1,e2,e3,e4⟩:=Jf 28 x3 hu (by omega) (by have:=G.size;omega);rw[<- w6.out]at e2;obtain⟨f1,f2,f3,f4,f5,f6,f7,f8⟩:=Da h1 y4 (by omega) h2 G e3 e2 e4 h5 z1;have m1:=e3.size;have n3:=G.size;refine⟨o,W',e1,?_,f1,f2,f3,f4,⟨_,f5,f6⟩,f7,⟨f8,fun q hq hn=>?_⟩⟩
   ·obtain⟨ao,co,eo,-⟩:=Rs.open (aC.rs e2 (by have:=sS kind l (H++[(X,Y)]);simp at this;omega));exact⟨_,_,_,eo⟩
   ·rw[nB.heap_setCell _ _ _ _ (show q≠(⟨wb+1+1,0,none⟩:Addr).block from hn),e3.block q (by omega) (fun e=>by have:=bU h2 q e.symm;omega),G.block q (by omega)];exact h6.block q hq hn
  have HX:Hid (∀W,nB Wb.heap.size Wb W->Rs W (.slice a l.length J) l/\Bk W wb #[.slice a l.length J] 28/\Bk W (wb+1) #[.func (.func fn) #[] #[]] 152/\Bk W c1 #[.int .i64 X,.int .i64 Y] 32/\Bk W (wb+1+1) #[v] 28/\Rs W v (eW kind l H)):=fun W G=>
   ⟨Rl.keep G,bA.keep G,bF.keep G,k1.keep G,h1.keep G,aC.rs (cC h2 G) (by omega)⟩
  obtain⟨G1,w2⟩:∃G1:fQ->fM->Prop,G1=fun W' o=>(∃(q:Option Addr)(n c:Nat),o=.slice q n c)/\W'.frozen? ⟨wb+1+1,0,none⟩=false/\W'.cell? ⟨wb+1+1,0,none⟩=some v/\iM W0.heap.size Wb (W'.setCell ⟨wb+1+1,0,none⟩ o)/\j8 (wb+1+1) Wb (W'.setCell ⟨wb+1+1,0,none⟩ o)/\Cl kind l wb w W0 (H++[(X,Y)]) (W'.setCell ⟨wb+1+1,0,none⟩ o):=⟨_,rfl⟩;obtain⟨G2,w1⟩:∃G2:fQ->Prop,G2=fun W'=>iM W0.heap.size Wb W'/\j8 (wb+1+1) Wb W'/\Cl kind l wb w W0 (H++[(X,Y)]) W':=⟨_,rfl⟩;clear y8 v6 hn w4 w3 v2 w5 h6 h5 b7 R0 z9 v8 h1 h2 k1 bA bF Rl w6 w7
  gi_wp2
  refine tI (by kernel_rfl) (JZ kind l (iD (X,Y) (fS kind l (X,Y))) (.slice a l.length J) (.func (.func fn) #[] #[]) v wb c1 (.func (.func 261) #[] #[.pointer (some ⟨wb+1+1+1,0,none⟩)]) X Y G1 G2 Wb) ?hg ?hs ?h0 ?hstep ?hend
  case hg=>
   intro i op ho;have hi:i<11:=(oW.1 ho).1;obtain rfl|rfl|rfl|rfl|rfl|rfl|rfl|rfl|rfl|rfl|rfl:i=0\/i=1\/i=2\/i=3\/i=4\/i=5\/i=6\/i=7\/i=8\/i=9\/i=10:=by omega
   all_goals cases ho;rfl
  case hs=>intro L a W hI;exact hI.1
  case h0=>
   refine⟨by simp,fun _=>(oU _ _).drew,fun e=>by simp at e,_,_,_,_,_,_,_,_,_,_,rfl,fun e=>by simp at e,fun _=>?_⟩;constructor<;>(intro e;simp at e)
  case hend=>
   rintro L ac W5 ⟨U,-,hF,-⟩ hr;have z3:∀j,j<11->L.getD j false=true:=by
    refine jC (by simpa using U) ?_ hr;intro i op ho;have hi:i<11:=(oW.1 ho).1;obtain rfl|rfl|rfl|rfl|rfl|rfl|rfl|rfl|rfl|rfl|rfl:i=0\/i=1\/i=2\/i=3\/i=4\/i=5\/i=6\/i=7\/i=8\/i=9\/i=10:=by omega
    all_goals cases ho
    all_goals (first|(simp;done)|(simp[Region.binds];done)|decide)
   have hq:=hF (z3 10 (by omega));rw[w1]at hq;clear hF z3 hr
   gi_wp2
   exact hq
  case hstep=>
   rintro L ac W i op x4 ⟨U,R,hF,t10,t11,t12,t13,t14,t15,t16,t17,t18,k7,rfl,hQ,M⟩ hi ho;have x5:L.getD 9 false=true->∀j,j<9->L.getD j false=true:=by
    intro l9;have l0:=x4 9 _ rfl l9 ⟨0,.data⟩ (by simp) rfl;have l8:=x4 9 _ rfl l9 ⟨8,.data⟩ (by simp) rfl;have l1:=x4 8 _ rfl l8 ⟨1,.data⟩ (by simp) rfl;have l2:=x4 8 _ rfl l8 ⟨2,.data⟩ (by simp) rfl;have l7:=x4 8 _ rfl l8 ⟨7,.data⟩ (by simp) rfl;have l3:=x4 7 _ rfl l7 ⟨3,.data⟩ (by simp) rfl;have l6:=x4 7 _ rfl l7 ⟨6,.data⟩ (by simp) rfl;have l4:=x4 6 _ rfl l6 ⟨4,.data⟩ (by simp) rfl;have l5:=x4 6 _ rfl l6 ⟨5,.data⟩ (by simp) rfl;intro j hj;obtain rfl|rfl|rfl|rfl|rfl|rfl|rfl|rfl|rfl:j=0\/j=1\/j=2\/j=3\/j=4\/j=5\/j=6\/j=7\/j=8:=by omega
    all_goals assumption
   have O:L.getD 10 false=true->L.getD 9 false=true:=fun b4=>x4 10 _ rfl b4 ⟨9,.data⟩ (by simp) rfl;clear x4;obtain⟨T,o',v5,Q⟩:=mem_ready.1 hi;rw[ho]at v5;cases v5;have g8:i<11:=(oW.1 ho).1;clear hi;generalize hK:(fun a' w'=>JZ kind l (iD (X,Y) (fS kind l (X,Y))) (.slice a l.length J) (.func (.func fn) #[] #[]) v wb c1 (.func (.func 261) #[] #[.pointer (some ⟨wb+1+1+1,0,none⟩)]) X Y G1 G2 Wb (L.setIfInBounds i true) a' w')=K';obtain rfl|rfl|rfl|rfl|rfl|rfl|rfl|rfl|rfl|rfl|rfl:i=0\/i=1\/i=2\/i=3\/i=4\/i=5\/i=6\/i=7\/i=8\/i=9\/i=10:=by omega
   ·cases ho;have g:L.getD 9 true=false:=sF T (by omega) (by omega) (fun e=>x5 e _ (by omega));have I:L.getD 10 true=false:=sF g (by omega) (by omega) O;have G:=R g;have S:=M g;obtain⟨RL,BA,BF,Z,V,RV⟩:=HX.out W G;clear hQ M hF R;have q0:=V.cell (i:=0) (v:=v) rfl;clear RL BA BF Z V RV;go_simp;subst hK;exact lY (by omega) U g I G (S.aw rfl)
   ·cases ho;have g:L.getD 9 true=false:=sF T (by omega) (by omega) (fun e=>x5 e _ (by omega));have I:L.getD 10 true=false:=sF g (by omega) (by omega) O;have G:=R g;have S:=M g;obtain⟨RL,BA,BF,Z,V,RV⟩:=HX.out W G;clear hQ M hF R;have q0:=V.cell (i:=0) (v:=v) rfl;clear RL BA BF Z V RV;go_simp;subst hK;exact lY (by omega) U g I G (S.au rfl)
   ·cases ho;have g:L.getD 9 true=false:=sF T (by omega) (by omega) (fun e=>x5 e _ (by omega));have I:L.getD 10 true=false:=sF g (by omega) (by omega) O;have G:=R g;have S:=M g;obtain⟨RL,BA,BF,Z,V,RV⟩:=HX.out W G;clear hQ M hF R;obtain⟨q0,q1,_,_⟩:=Z.two;clear RL BA BF Z V RV;go_simp;subst hK;exact lY (by omega) U g I G (S.ar rfl)
   ·cases ho;have g:L.getD 9 true=false:=sF T (by omega) (by omega) (fun e=>x5 e _ (by omega));have I:L.getD 10 true=false:=sF g (by omega) (by omega) O;have G:=R g;have S:=M g;obtain⟨RL,BA,BF,Z,V,RV⟩:=HX.out W G;clear hQ M hF R;have q0:=BF.cell (i:=0) (v:= .func (.func fn) #[] #[]) rfl;clear RL BA BF Z V RV;go_simp;subst hK;exact lY (by omega) U g I G (S.aq rfl)
   ·cases ho;have g:L.getD 9 true=false:=sF T (by omega) (by omega) (fun e=>x5 e _ (by omega));have I:L.getD 10 true=false:=sF g (by omega) (by omega) O;have G:=R g;have S:=M g;obtain⟨RL,BA,BF,Z,V,RV⟩:=HX.out W G;clear hQ M hF R;have q0:=BA.cell (i:=0) (v:= .slice a l.length J) rfl;clear RL BA BF Z V RV;go_simp;subst hK;exact lY (by omega) U g I G (S.be rfl)
   ·cases ho;have g:L.getD 9 true=false:=sF T (by omega) (by omega) (fun e=>x5 e _ (by omega));have I:L.getD 10 true=false:=sF g (by omega) (by omega) O;have G:=R g;have S:=M g;obtain⟨RL,BA,BF,Z,V,RV⟩:=HX.out W G;clear hQ M hF R;obtain⟨q0,q1,_,_⟩:=Z.two;clear RL BA BF Z V RV;go_simp;subst hK;exact lY (by omega) U g I G (S.cb rfl)
   ·cases ho;have g:L.getD 9 true=false:=sF T (by omega) (by omega) (fun e=>x5 e _ (by omega));have I:L.getD 10 true=false:=sF g (by omega) (by omega) O;have G:=R g;have S:=M g;obtain⟨RL,BA,BF,Z,V,RV⟩:=HX.out W G;clear hQ M hF R;have e4:=S.s4 (Q ⟨4,.data⟩ (by simp) rfl);have e5:=S.s5 (Q ⟨5,.data⟩ (by simp) rfl);subst e4 e5;clear BA BF Z V RV;go_simp;refine⟨trivial,?_⟩;refine nX lq (nT (gD.2 (wO _ l X Y W RL)) ?_);rintro e W1 ⟨o1,rfl,x3,x9⟩;have I1:=aQ.is x3 (by have:=qZ l X Y;omega);subst hK;exact lY (by omega) U g I (aG G x9) ((S.keep x9).ca I1)
   ·cases ho;have g:L.getD 9 true=false:=sF T (by omega) (by omega) (fun e=>x5 e _ (by omega));have I:L.getD 10 true=false:=sF g (by omega) (by omega) O;have G:=R g;have S:=M g;obtain⟨RL,BA,BF,Z,V,RV⟩:=HX.out W G;clear hQ M hF R;have e3:=S.s3 (Q ⟨3,.data⟩ (by simp) rfl);have e6:=S.s6 (Q ⟨6,.data⟩ (by simp) rfl);subst e3;clear RL BA BF Z V RV;go_simp;refine⟨trivial,?_⟩;refine nX lq (nT (gD.2 (a6.out _ (aM l X Y) W e6)) ?_);rintro e W1 ⟨o1,rfl,x3,x9⟩;have I1:=aQ.is x3 (by omega);subst hK;exact lY (by omega) U g I (aG G x9) ((S.keep x9).cZ I1)
   ·cases ho;have g:L.getD 9 true=false:=sF T (by omega) (by omega) (fun e=>x5 e _ (by omega));have I:L.getD 10 true=false:=sF g (by omega) (by omega) O;have G:=R g;have S:=M g;obtain⟨RL,BA,BF,Z,V,RV⟩:=HX.out W G;clear hQ M hF R;have e1:=S.s1 (Q ⟨1,.data⟩ (by simp) rfl);have e2:=S.s2 (Q ⟨2,.data⟩ (by simp) rfl);have e7:=S.s7 (Q ⟨7,.data⟩ (by simp) rfl);subst e1 e2;clear RL BA BF Z V;go_simp;refine⟨trivial,?_⟩;refine nX lq (nT (gD.2 (Ge _ (eW kind l H) X Y _ (dE kind (aM l X Y)) W RV (fun r hr=>(g0.out r hr).1) (by omega) e7 c4 (by have:=e9.out;omega) (fun r hr=>mN (p8 kind (cO l X Y)) r hr))) ?_);rintro e W1 ⟨o1,rfl,x3,x9⟩;rw[f0.out]at x3;have R1:=aC.rs x3 (by rw[uM];have:=w8.out;omega);subst hK;exact lY (by omega) U g I (aG G x9) ((S.keep x9).cN R1)
   ·cases ho;have I:L.getD 10 true=false:=sF T (by omega) (by omega) O;have G:=R T;have S:=M T;have e0:=S.s0 (Q ⟨0,.data⟩ (by simp) rfl);have e8:=S.s8 (Q ⟨8,.data⟩ (by simp) rfl);subst e0;obtain⟨u,W2,e1,e2⟩:=g2.out W _ G e8;have b9:G1 W2 u:=by rw[w2];exact e2
    clear e2 S M hQ hF R;refine AN _ _ _ rfl rfl rfl e1 ?_;subst hK;exact OJ U I b9
   ·cases ho;have l9:=Q ⟨9,.data⟩ (by simp) rfl;have hq:=hQ l9 T;rw[w2]at hq;obtain⟨⟨qa,qn,qc,rfl⟩,q1,q2,q3⟩:=hq;have b8:G2 (W.setCell ⟨wb+1+1,0,none⟩ (.slice qa qn qc)):=by rw[w1];exact q3
    clear q3 hQ M hF R;go_simp;subst hK;exact OK U l9 b8
 case done=>
  rintro D xs W hD M ⟨⟨v,h1,h2⟩,h5,h6⟩ hK;have c0:=h1.cell (i:=0) (v:=v) rfl;subst M;have x5:=sS kind l (jT l);have hj:=nJ l;obtain⟨d6,d3,rfl,-⟩:=Rs.open (aC.rs h2 (by omega));have O3:Hid (aC W W0.heap.size (.slice d6 (eW kind l (jT l)).length d3) (eW kind l (jT l))):=h2;clear h1 h2
  gi_wp2
  refine⟨by simp,.inl ⟨_,_,rfl,run_takeDeferred hK,?_⟩⟩;refine⟨_,results_tmp rfl _ _ _,_,rfl,?_,?_⟩
  ·refine cW (B:=W0.heap.size) ?_ (by have:=z4.out;omega);refine fB O3.out fun q e=>?_;obtain⟨c,v7⟩:=iQ O3.out e;exact (grownBy_putObj' W D (.deferred none)).block q (oT O3.out q e) (fun e=>by cases e;unfold Bk at v7;rw[v7]at hK;cases hK)
  ·rw[z4.out];exact h5.trans (belowK_b (w:=W0) (by omega) W D _ _ hD hK rfl rfl)
theorem PW (w:fQ):gQ jB 148 #[.int .i64 1] w fun e a=>e=.returned (.tuple #[.func (.func 198) #[] #[],.bool true])/\nB w.heap.size w a:=by
 go_enter nA,mO;go_wp2_with fail;refine gX (by simp[results,jO,go_sem];try rfl) rfl ?_;exact⟨rfl,oU _ _⟩
theorem PX (w:fQ):gQ jB 148 #[.int .i64 2] w fun e a=>e=.returned (.tuple #[.func (.func 199) #[] #[],.bool true])/\nB w.heap.size w a:=by
 go_enter nA,mO;go_wp2_with fail;refine gX (by simp[results,jO,go_sem];try rfl) rfl ?_;exact⟨rfl,oU _ _⟩
theorem PY (w:fQ):gQ jB 148 #[.int .i64 3] w fun e a=>e=.returned (.tuple #[.func (.func 200) #[] #[],.bool true])/\nB w.heap.size w a:=by
 go_enter nA,mO;go_wp2_with fail;refine gX (by simp[results,jO,go_sem];try rfl) rfl ?_;exact⟨rfl,oU _ _⟩
theorem JV (kind:Int)(A:Nat)(eg:∀args w,(callFunc A args).run jB w=.ok (.enter A args) w)(G:∀(v:fM)(s:List It)(W:fQ),Is W v s->gQ jB A #[v] W fun e g=>∃o:fM,e=.returned o/\aQ g W.heap.size o (dE kind s)/\nB W.heap.size W g)
  (v:fM) (l:List Rw) (w:fQ) (h:Rs w v l) (hk:aZ l=true):
  gQ jB 174 #[v,.func (.func A) #[] #[]] w fun e g=>∃o:fM,e=.returned o/\aC g w.heap.size o (fT kind l)/\nB w.heap.size w g:=by
 have HI:Hid (Rs w v l):=h;have h9:=i6 hk;have HC:Hid (∀(key:Int)(W:fQ)(u:fM),Rs W u (aY l key)->gQ jB 224 #[u,.func (.func A) #[] #[]] W fun e g=>∃o:fM,e=.returned o/\aC g W.heap.size o (fD kind (aY l key))/\nB W.heap.size W g):=fun key W u hR=>by
  obtain⟨a,x4,rfl,-⟩:=Rs.open hR;exact gD.1 (GO kind A eg G a x4 (aY l key) W (xI hk key) hR)
 have HL:Hid (∀k,(kG (fun k=>fD kind (aY l k)) k).length<=k*102400):=EJ fun k=>sP kind (aY l k);have x7:Hid (∀k,(fD kind (aY l k)).length<=102400):=fun k=>sP kind (aY l k);have H4:Hid (kG (fun k=>fD kind (aY l k)) 4=fT kind l):=Cp kind l;clear h G;go_enter Tryz.func174,Tryz.ntmps174;go_wp2_with fail
 go_loopw [5,7] (fun o i wr=>∃k:Nat,k<=4/\i=.int .i64 k/\aC wr w.heap.size o (kG (fun k=>fD kind (aY l k)) k)/\nB w.heap.size w wr) (fun _ i _=>4-(intOf i).toNat)
 case atStart=>exact⟨0,by omega,rfl,oN _ _ _ _ _,oU _ _⟩
 case round=>
  obtain⟨k,z3,rfl,H,Q⟩:=hrel;have R:Hid (aC wr w.heap.size u5 (kG (fun k=>fD kind (aY l k)) k)):=H;clear H;have z0:=Q.size
  by_cases z1:k<4
  ·have ik:(k:Int)<4:=by omega
   go_wp2_with fail;refine (JJ _ l k _ (HI.out.keep Q) h9).mono ?_;rintro e T ⟨V,rfl,D,O⟩;have R3:Rs T V (aY l k):=aC.rs D (by have:=rG l k;omega);have J:=aG Q O;have S:Hid (aC T w.heap.size u5 (kG (fun k=>fD kind (aY l k)) k)):=cC R.out O;clear D R Q O;go_wp2_with fail;refine (HC.out k T V R3).mono ?_;rintro e w4 ⟨o4,rfl,B,M⟩;have h1:=HL.out k;have h2:=x7.out k;have Z:=aC.rs B (by omega);have I:=aG J M;have y0:=I.size;have O4:aC w4 w.heap.size u5 (kG (fun k=>fD kind (aY l k)) k):=cC S.out M;have HZ:Hid (kG (fun k=>fD kind (aY l k)) (k+1)=kG (fun k=>fD kind (aY l k)) k++fD kind (aY l k)):=rfl;clear S M B R3 J;generalize kG (fun k=>fD kind (aY l k)) k=LL at*;generalize fD kind (aY l k)=MM at*
   go_wp2_with (at_builtin;refine oG _ rfl _ _ rfl w.heap.size _ LL rfl O4 _ MM rfl Z (by omega) (by omega) ?_;intro v5 w5 U x1)
   have x2:nB w.heap.size w w5:=Below.aU I x1 (by omega) (bU O4);exact⟨⟨k+1,by omega,by go_num,by rw[HZ.out];exact U,x2⟩,by simp[intOf];omega⟩
  ·obtain rfl:k=4:=by omega
   rw[H4.out]at R;go_wp2_with fail;go_ret;exact⟨_,rfl,R.out,Q⟩
structure Nm (kind:Int)(fn:Nat):Prop where
 of:∀W,gQ jB 148 #[.int .i64 kind] W fun e w'=>e=.returned (.tuple #[.func (.func fn) #[] #[],.bool true])/\nB W.heap.size W w'
 eg:∀args w,(callFunc fn args).run jB w=.ok (.enter fn args) w
 sum:∀(v:fM)(s:List It)(W:fQ),Is W v s->gQ jB fn #[v] W fun e w'=>∃o:fM,e=.returned o/\aQ w' W.heap.size o (dE kind s)/\nB W.heap.size W w'
theorem Li (a:cG kind 1 3=true):∃A,Nm kind A:=by
 have g:kind=1\/kind=2\/kind=3:=by simp[cG]at a;omega
 rcases g with rfl|rfl|rfl
 ·exact⟨198,PW,enters_of Tryz.func198 (by kernel_rfl) rfl,fun v s W h=>by rw[<- Lh];exact AY v s W h⟩
 ·exact⟨199,PX,enters_of Tryz.func199 (by kernel_rfl) rfl,fun v s W h=>by rw[<- Nd];exact tY v s W h⟩
 ·exact⟨200,PY,enters_of Tryz.func200 (by kernel_rfl) rfl,fun v s W h=>by rw[<- Lk];exact AZ v s W h⟩
theorem H0 {a:Nat}(H:Nm kind a)(v:fM)(l:List Rw)(w:fQ)(h:Rs w v l)(s:aZ l=true):
  gQ jB 174 #[v,.func (.func a) #[] #[]] w fun e g=>∃o:fM,e=.returned o/\aC g w.heap.size o (fT kind l)/\nB w.heap.size w g:=JV kind a H.eg H.sum v l w h s
end Go.Proofs.YtbdpcngcbnoioaaGreatDoor
