import Derived.Test.YtbdpcngcbnoioaaGreatDoorGf1
import Derived.Test.YtbdpcngcbnoioaaGreatDoorGt10
set_option maxRecDepth 100000
set_option maxHeartbeats 32000000
namespace Go.Proofs.YtbdpcngcbnoioaaGreatDoor
open Go.RowKit Go.Shelf
open Go.ChangeMaps (setBlock)
open Go renaming Value->fD,World->fH,callsIn_wide->fV,CallsIn->gY,Calls->gZ,bodyPost_ret->iC,KeepsFrom->jU,Fence->kR
open Go.Proofs.Tryz renaming prog->kX,results148->lI,ntmps148->lY,func148->mF
open Go.RowKit renaming Below->mJ
open Go.CallsIn renaming mono->nU,inRound->oJ
open Go.RowKit.Below renaming refl->oO
open _root_.Array renaming getElem?_eq_some_iff->qA
open Go.Fence renaming wide->rN
variable {G1:fH->fD->Prop}{G2:fH->Prop}{L:Array Bool}{W W' w w0:fH}{X Y kind:Int}{c1 wb:Nat}{fv g1 rv t10 t11 t12 t13 t14 t15 t16 t17 t18 u v:fD}
theorem Iz {m a:Nat}{P:Program}{l:Nat}{args:Array fD}{R:Ending->fH->Prop}(h:YieldAt rN m P l args W R):YieldAt rN a P l args W R:=by
 obtain⟨g,tmps,assign,body,h1,h2,h3⟩:=h;exact⟨g,tmps,assign,body,h1,h2,fun c s _=>h3 c s (room_wide _)⟩
theorem Li {α:Type}{m k:Nat}{P:Program}{g:Nat}{lb:Array fD}{s:α->Array fD}{S:List α->Prop}{B:List α->α->Prop}{N:Nat}(n:Nat)(h:D5 m rN k P g lb s S B N w):D5 m rN n P g lb s S B N w:=
 fun l J W h1 h2 h3 h4=>fV.2 (fV.1 (h l J W h1 h2 (fun A x D a b c=>Iz (h3 A x D a b c)) h4))
theorem Kx.aA {N a:Nat}(h:mJ W.heap.size W W')(s:N<=W.heap.size):Kx N a W W':=⟨h.size,fun k g _=>h.block k (by omega)⟩
theorem NY (e:w.heap.size=wb)(h:mJ wb w W)(a:mJ W.heap.size W W'):mJ wb w W':=by
 subst e;exact aH h a
def C8 (kind:Int)(l:List Rw)(wb:Nat)(w W0:fH)(pre:LI)(W:fH):Prop:=
 (∃v:fD,Bk W (wb+1+1) #[v] 28/\aD W W0.heap.size v (dZ kind l pre))/\mJ wb w W/\Kx W0.heap.size (wb+1+1) W0 W
theorem Mu {l:List Rw}{W0:fH}{g:LI}{A B:fH}{a:Option Nat}(hs:C8 kind l wb w W0 g A)(hg:A.grownBy B a)(hr:∀r,a=some r->W0.heap.size<=r/\∃o,A.heap[r]?=some o/\o.isCells=false)(hm:wb+1+1<W0.heap.size):C8 kind l wb w W0 g B:=by
 obtain⟨⟨v,h1,h2⟩,h5,h6⟩:=hs;have D:=h6.size;have hne:∀{k:Nat}{c:Array fD}{t:TypeId},Bk A k c t->∀r,a=some r->k≠r:=fun G r e s=>by
  obtain⟨_,o,h8,I⟩:=hr r e;subst s;unfold Bk at G;rw[G]at h8;cases h8;cases I
 refine⟨⟨v,Bk.aO h1 hg (hne h1),dF h2 fun q e=>hg.block q (oT h2 q e) (fun s=>?_)⟩,?_,⟨Nat.le_trans D hg.size,fun k H hm=>?_⟩⟩
 ·obtain⟨c,F⟩:=gP h2 e;exact hne F q s.symm rfl
 ·have:=h1.lt;exact Below.aO h5 hg (by omega) (fun r e=>by have:=(hr r e).1;omega)
 ·rw[hg.block k (by omega) (fun e=>by have:=(hr k e.symm).1;omega)];exact h6.block k H hm
theorem NU {l:List Rw}{W0:fH}{g:LI}{A B:fH}(hs:C8 kind l wb w W0 g A)(hi:sZ W0.heap.size (wb+1+1) A B)(hm:wb+1+1<W0.heap.size):C8 kind l wb w W0 g B:=by
 obtain⟨⟨v,h1,h2⟩,h5,h6⟩:=hs;refine⟨⟨v,?_,dF h2 fun q e=>hi.arr q (by rw[hZ h1];exact e)⟩,⟨hi.os.trans h5.os,hi.tape.trans h5.tape,hi.output.trans h5.output,Nat.le_trans h5.size hi.size,fun k a=>(hi.low k (by omega)).trans (h5.block k a)⟩,⟨Nat.le_trans h6.size hi.size,fun k a hn=>(hi.low k a).trans (h6.block k a hn)⟩⟩;unfold Bk;rw[hi.low _ hm];exact h1
theorem JL (s:List It):jR s=dE 1 s:=by simp[dE]
theorem Ke (s:List It):lO s=dE 2 s:=by simp[dE]
theorem Iw (s:List It):jE s=dE 3 s:=by simp[dE]
theorem Ir {a:Nat}{l:List Rw}(G:TypeId)(s:aD W a v l){m:List Rw}(Q:Rs W u m)(hl:l.length+m.length<=2000000)(D:a<=W.heap.size):
  ∃(o:fD)(W':fH),(Builtin.append_ #[28,28] G #[v,u]).run kX W=.ok o W'/\aD W' a o (l++m)/\W.grownBy W' v.ownBlock/\(o.ownBlock=v.ownBlock\/∃q,o.ownBlock=some q/\W.heap.size<=q/\q<W'.heap.size):=by
 obtain⟨i0,hi,O,N,M⟩:=info_parts qO;obtain⟨ad,F,rfl,H⟩:=Dh Q
 by_cases A:m=[]
 ·subst A;exact⟨v,W,A5 s ad F G,by simpa using s,⟨rfl,rfl,rfl,Nat.le_refl _,fun _ _ _=>rfl⟩,.inl rfl⟩
 ·obtain⟨g,off,rfl,B⟩:=H A;have I:0<m.length:=List.length_pos_iff.2 A;obtain⟨R,S,J,h1,h2,h3,h4,h5⟩:=run_append_lies (P:=kX) (w:=W) 28 G a 55 i0 _ 5 40 Tryz.underlying28 hi O N M rfl (by decide) v l.length (l.flatMap fX) s ⟨g,off,none⟩ m.length F (m.flatMap fX) (lX jD m) B (Di m) I (by unfold maxLen;omega) (by omega) D W.heap.size rfl;refine⟨_,J,h1,?_,h3,?_⟩
  ·show J.ownsRow _ _ _ _ _ _
   rw[List.flatMap_append,List.length_append];exact h2
  ·rcases h4 with h4|h4
   ·exact .inl h4.symm
   ·exact .inr ⟨R,rfl,by omega,h5⟩
structure jK (kind:Int)(l D:List Rw)(rv fv v:fD)(X Y:Int)(L:Array Bool)(W:fH)(t10 t11 t12 t13 t14 t15 t16 t17 t18:fD):Prop where
 s0:L.getD 0 false=true->t10=v
 s1:L.getD 1 false=true->t11=v
 s2:L.getD 2 false=true->t12=tv X Y
 s3:L.getD 3 false=true->t13=fv
 s4:L.getD 4 false=true->t14=rv
 s5:L.getD 5 false=true->t15=tv X Y
 s6:L.getD 6 false=true->Is W t16 (bL l X Y)
 s7:L.getD 7 false=true->Is W t17 (dE kind (bL l X Y))
 s8:L.getD 8 false=true->Rs W t18 D
theorem jK.keep {l D:List Rw}(h:jK kind l D rv fv v X Y L W t10 t11 t12 t13 t14 t15 t16 t17 t18)(a:mJ W.heap.size W W'):jK kind l D rv fv v X Y L W' t10 t11 t12 t13 t14 t15 t16 t17 t18 where
 s0:=h.s0
 s1:=h.s1
 s2:=h.s2
 s3:=h.s3
 s4:=h.s4
 s5:=h.s5
 s6:=fun e=>(h.s6 e).keep a
 s7:=fun e=>(h.s7 e).keep a
 s8:=fun e=>(h.s8 e).keep a
theorem jK.be {l D:List Rw}(h:jK kind l D rv fv v X Y L W t10 t11 t12 t13 t14 t15 t16 t17 t18)(a:u=v):jK kind l D rv fv v X Y (L.setIfInBounds 0 true) W u t11 t12 t13 t14 t15 t16 t17 t18 where
 s0:=fun _=>a
 s1:=fun e=>h.s1 (gS e)
 s2:=fun e=>h.s2 (gS e)
 s3:=fun e=>h.s3 (gS e)
 s4:=fun e=>h.s4 (gS e)
 s5:=fun e=>h.s5 (gS e)
 s6:=fun e=>h.s6 (gS e)
 s7:=fun e=>h.s7 (gS e)
 s8:=fun e=>h.s8 (gS e)
theorem jK.bG {l D:List Rw}(h:jK kind l D rv fv v X Y L W t10 t11 t12 t13 t14 t15 t16 t17 t18)(a:u=v):jK kind l D rv fv v X Y (L.setIfInBounds 1 true) W t10 u t12 t13 t14 t15 t16 t17 t18 where
 s0:=fun e=>h.s0 (gS e)
 s1:=fun _=>a
 s2:=fun e=>h.s2 (gS e)
 s3:=fun e=>h.s3 (gS e)
 s4:=fun e=>h.s4 (gS e)
 s5:=fun e=>h.s5 (gS e)
 s6:=fun e=>h.s6 (gS e)
 s7:=fun e=>h.s7 (gS e)
 s8:=fun e=>h.s8 (gS e)
theorem jK.au {l D:List Rw}(h:jK kind l D rv fv v X Y L W t10 t11 t12 t13 t14 t15 t16 t17 t18)(a:u=tv X Y):jK kind l D rv fv v X Y (L.setIfInBounds 2 true) W t10 t11 u t13 t14 t15 t16 t17 t18 where
 s0:=fun e=>h.s0 (gS e)
 s1:=fun e=>h.s1 (gS e)
 s2:=fun _=>a
 s3:=fun e=>h.s3 (gS e)
 s4:=fun e=>h.s4 (gS e)
 s5:=fun e=>h.s5 (gS e)
 s6:=fun e=>h.s6 (gS e)
 s7:=fun e=>h.s7 (gS e)
 s8:=fun e=>h.s8 (gS e)
theorem jK.ar {l D:List Rw}(h:jK kind l D rv fv v X Y L W t10 t11 t12 t13 t14 t15 t16 t17 t18)(a:u=fv):jK kind l D rv fv v X Y (L.setIfInBounds 3 true) W t10 t11 t12 u t14 t15 t16 t17 t18 where
 s0:=fun e=>h.s0 (gS e)
 s1:=fun e=>h.s1 (gS e)
 s2:=fun e=>h.s2 (gS e)
 s3:=fun _=>a
 s4:=fun e=>h.s4 (gS e)
 s5:=fun e=>h.s5 (gS e)
 s6:=fun e=>h.s6 (gS e)
 s7:=fun e=>h.s7 (gS e)
 s8:=fun e=>h.s8 (gS e)
theorem jK.aq {l D:List Rw}(h:jK kind l D rv fv v X Y L W t10 t11 t12 t13 t14 t15 t16 t17 t18)(a:u=rv):jK kind l D rv fv v X Y (L.setIfInBounds 4 true) W t10 t11 t12 t13 u t15 t16 t17 t18 where
 s0:=fun e=>h.s0 (gS e)
 s1:=fun e=>h.s1 (gS e)
 s2:=fun e=>h.s2 (gS e)
 s3:=fun e=>h.s3 (gS e)
 s4:=fun _=>a
 s5:=fun e=>h.s5 (gS e)
 s6:=fun e=>h.s6 (gS e)
 s7:=fun e=>h.s7 (gS e)
 s8:=fun e=>h.s8 (gS e)
theorem jK.ai {l D:List Rw}(h:jK kind l D rv fv v X Y L W t10 t11 t12 t13 t14 t15 t16 t17 t18)(a:u=tv X Y):jK kind l D rv fv v X Y (L.setIfInBounds 5 true) W t10 t11 t12 t13 t14 u t16 t17 t18 where
 s0:=fun e=>h.s0 (gS e)
 s1:=fun e=>h.s1 (gS e)
 s2:=fun e=>h.s2 (gS e)
 s3:=fun e=>h.s3 (gS e)
 s4:=fun e=>h.s4 (gS e)
 s5:=fun _=>a
 s6:=fun e=>h.s6 (gS e)
 s7:=fun e=>h.s7 (gS e)
 s8:=fun e=>h.s8 (gS e)
theorem jK.bm {l D:List Rw}(h:jK kind l D rv fv v X Y L W t10 t11 t12 t13 t14 t15 t16 t17 t18)(a:Is W u (bL l X Y)):jK kind l D rv fv v X Y (L.setIfInBounds 6 true) W t10 t11 t12 t13 t14 t15 u t17 t18 where
 s0:=fun e=>h.s0 (gS e)
 s1:=fun e=>h.s1 (gS e)
 s2:=fun e=>h.s2 (gS e)
 s3:=fun e=>h.s3 (gS e)
 s4:=fun e=>h.s4 (gS e)
 s5:=fun e=>h.s5 (gS e)
 s6:=fun _=>a
 s7:=fun e=>h.s7 (gS e)
 s8:=fun e=>h.s8 (gS e)
theorem jK.bl {l D:List Rw}(h:jK kind l D rv fv v X Y L W t10 t11 t12 t13 t14 t15 t16 t17 t18)(a:Is W u (dE kind (bL l X Y))):jK kind l D rv fv v X Y (L.setIfInBounds 7 true) W t10 t11 t12 t13 t14 t15 t16 u t18 where
 s0:=fun e=>h.s0 (gS e)
 s1:=fun e=>h.s1 (gS e)
 s2:=fun e=>h.s2 (gS e)
 s3:=fun e=>h.s3 (gS e)
 s4:=fun e=>h.s4 (gS e)
 s5:=fun e=>h.s5 (gS e)
 s6:=fun e=>h.s6 (gS e)
 s7:=fun _=>a
 s8:=fun e=>h.s8 (gS e)
theorem jK.bj {l D:List Rw}(h:jK kind l D rv fv v X Y L W t10 t11 t12 t13 t14 t15 t16 t17 t18)(a:Rs W u D):jK kind l D rv fv v X Y (L.setIfInBounds 8 true) W t10 t11 t12 t13 t14 t15 t16 t17 u where
 s0:=fun e=>h.s0 (gS e)
 s1:=fun e=>h.s1 (gS e)
 s2:=fun e=>h.s2 (gS e)
 s3:=fun e=>h.s3 (gS e)
 s4:=fun e=>h.s4 (gS e)
 s5:=fun e=>h.s5 (gS e)
 s6:=fun e=>h.s6 (gS e)
 s7:=fun e=>h.s7 (gS e)
 s8:=fun _=>a
def Jb (kind:Int)(l D:List Rw)(rv fv v:fD)(wb c1:Nat)(g1:fD)(X Y:Int)(G1:fH->fD->Prop)(G2:fH->Prop)(w0:fH)(L:Array Bool)(a:Act)(W:fH):Prop:=
 L.size=11/\(L.getD 9 true=false->mJ w0.heap.size w0 W)/\(L.getD 10 false=true->G2 W)/\∃t10 t11 t12 t13 t14 t15 t16 t17 t18 t19:fD,
  a={ tmps:=#[rv,fv,.pointer (some ⟨wb,0,none⟩),.pointer (some ⟨wb+1,0,none⟩),.slice none 0 0,.pointer (some ⟨wb+1+1,0,none⟩),.pointer (some ⟨c1,0,none⟩),rv,g1,tv X Y,t10,t11,t12,t13,t14,t15,t16,t17,t18,t19,undef],defers:=[] }/\(L.getD 9 false=true->L.getD 10 true=false->G1 W t19)/\(L.getD 9 true=false->jK kind l D rv fv v X Y L W t10 t11 t12 t13 t14 t15 t16 t17 t18)
theorem kU {l D:List Rw}{a:fD}{i:Nat}(hi:i<9)(g:L.size=11)(B:L.getD 9 true=false)(s:L.getD 10 true=false)(A:mJ w0.heap.size w0 W)(S:jK kind l D rv fv v X Y (L.setIfInBounds i true) W t10 t11 t12 t13 t14 t15 t16 t17 t18):
  Jb kind l D rv fv v wb c1 g1 X Y G1 G2 w0 (L.setIfInBounds i true) { tmps:=#[rv,fv,.pointer (some ⟨wb,0,none⟩),.pointer (some ⟨wb+1,0,none⟩),.slice none 0 0,.pointer (some ⟨wb+1+1,0,none⟩),.pointer (some ⟨c1,0,none⟩),rv,g1,tv X Y,t10,t11,t12,t13,t14,t15,t16,t17,t18,a,undef],defers:=[] } W:=
 ⟨by simp[g],fun _=>A,fun e=>by rw[jL (by omega)]at e;exact absurd e (by simp[kN s (by omega)]),_,_,_,_,_,_,_,_,_,_,rfl,fun e=>by rw[jL (by omega)]at e;exact absurd e (by simp[kN B (by omega)]),fun _=>S⟩
theorem M1 {l D:List Rw}(a:L.size=11)(g:L.getD 10 true=false)(s:G1 W u):
  Jb kind l D rv fv v wb c1 g1 X Y G1 G2 w0 (L.setIfInBounds 9 true) { tmps:=#[rv,fv,.pointer (some ⟨wb,0,none⟩),.pointer (some ⟨wb+1,0,none⟩),.slice none 0 0,.pointer (some ⟨wb+1+1,0,none⟩),.pointer (some ⟨c1,0,none⟩),rv,g1,tv X Y,t10,t11,t12,t13,t14,t15,t16,t17,t18,u,undef],defers:=[] } W:=
 ⟨by simp[a],fun e=>by simp[a]at e,fun e=>by rw[jL (by omega)]at e;exact absurd e (by simp[kN g (by omega)]),_,_,_,_,_,_,_,_,_,_,rfl,fun _ _=>s,fun e=>by simp[a]at e⟩
theorem Mm {l D:List Rw}{s:fD}(g:L.size=11)(a:L.getD 9 false=true)(A:G2 W):
  Jb kind l D rv fv v wb c1 g1 X Y G1 G2 w0 (L.setIfInBounds 10 true) { tmps:=#[rv,fv,.pointer (some ⟨wb,0,none⟩),.pointer (some ⟨wb+1,0,none⟩),.slice none 0 0,.pointer (some ⟨wb+1+1,0,none⟩),.pointer (some ⟨c1,0,none⟩),rv,g1,tv X Y,t10,t11,t12,t13,t14,t15,t16,t17,t18,s,undef],defers:=[] } W:=
 ⟨by simp[g],fun e=>(by rw[jL (by omega)]at e;rw[kN e (by omega)]at a;cases a),fun _=>A,_,_,_,_,_,_,_,_,_,_,rfl,fun _ e=>by simp[g]at e,fun e=>(by rw[jL (by omega)]at e;rw[kN e (by omega)]at a;cases a)⟩
open Go.ChangeMaps (setBlock)
attribute [local go_sem] Oper.semAt_some
theorem FO (kind:Int)(fn:Nat)(eg:∀args w,(callFunc fn args).run kX w=.ok (.enter fn args) w)(z3:∀(v:fD)(s:List It)(W:fH),Is W v s->gZ kX fn #[v] W fun e w'=>∃o:fD,e=.returned o/\bZ w' W.heap.size o (dE kind s)/\mJ W.heap.size W w')
  (a:Option Addr) (I:Nat) (l:List Rw) (w:fH) (hk:aR l=true) (v1:Rs w (.slice a l.length I) l):
  gY rN 6 kX 224 #[.slice a l.length I,.func (.func fn) #[] #[]] w fun e w'=>∃o:fD,e=.returned o/\aD w' w.heap.size o (eX kind l)/\mJ w.heap.size w w':=by
 have w9:=(show Hid _ from z3);have m9:=fP hk;have HH:Hid (Rs w (.slice a l.length I) l):=v1;refine callsIn_of_wp_marks Tryz.func224 rfl trivial ?_ rfl;simp only[Tryz.ntmps224,List.size_toArray,List.length_cons,List.length_nil,Nat.reduceAdd,Nat.reduceSub,Array.replicate_succ,Array.replicate_zero,List.push_toArray,List.append_toArray,List.nil_append,List.cons_append]
 gi_wp2
 refine⟨trivial,?_⟩;refine nU (fV.2 (As _ _ _ _)) ?_;rintro e W0 ⟨rfl,y0⟩;have v5:Bk W0 w.heap.size #[.slice a l.length I] 28:=by
  rw[y0];exact ((((Bk.new (w:=w) _ _ rfl).alloc _).alloc _).alloc _)
 have v4:Bk W0 (w.heap.size+1) #[.func (.func fn) #[] #[]] 152:=by
  rw[y0];exact ((Bk.new (w:=w.alloc _) _ _ (by simp)).alloc _).alloc _
 have z7:Bk W0 (w.heap.size+1+1) #[.slice none 0 0] 28:=by
  rw[y0];exact (Bk.new (w:=(w.alloc _).alloc _) _ _ (by simp)).alloc _
 have v6:Bk W0 (w.heap.size+1+1+1) #[.slice a l.length I] 28:=by
  rw[y0];have:=Bk.new (w:=((w.alloc (.cells #[.slice a l.length I] 28)).alloc (.cells #[.func (.func fn) #[] #[]] 152)).alloc (.cells #[.slice none 0 0] 28)) #[.slice a l.length I] 28 (k:=w.heap.size+1+1+1) (by simp);exact this
 have b0:W0.heap.size=w.heap.size+1+1+1+1:=by rw[y0];simp
 have z4:mJ w.heap.size w W0:=by rw[y0];exact aG (aG (aG (aG (oO _ _) _) _) _) _
 clear y0 v1 z3;have v0:cA W0 (w.heap.size+1+1)=none:=by rw[hZ z7];rfl
 have R0:=HH.out.keep z4
 gi_wp2
 generalize z9:w.heap.size=wb at*;have n5:Hid (W0.heap.size=wb+1+1+1+1):=b0;have z0:Hid (w.heap.size=wb):=z9;clear z9;have y2:wb+1+1<W0.heap.size:=by omega
 refine yX (n:=6) (m:=wb+1+1) (w0:=W0) rfl (by omega) (gf:=261) (lb:=#[.pointer (some ⟨wb+1+1+1,0,none⟩)]) rfl trivial (enters_of Tryz.func261 (by kernel_rfl) rfl)
  (Li 5 (GJ (wb+1+1+1) (wb+1+1) a I l W0 hk R0 v6 y2 (fun q e=>by rw[v0]at e;cases e))) y2 (oO _ _) (fun _=>rfl)
  (fun G W=>C8 kind l wb w W0 G W)
  (fun G A B a0 hs hg hr=>Mu hs hg hr y2)
  (fun G A B hs hi=>NU hs hi y2)
  ⟨⟨_,z7,oN _ _ _ _ _⟩,z4,Kx.refl _ _ _⟩
  (fun t a' W=>∃c1:Nat,W0.heap.size<=c1/\Bk W c1 #[.int .i64 t.1,.int .i64 t.2] 32 /\
   a'={ tmps:=#[.slice a l.length I,.func (.func fn) #[] #[],.pointer (some ⟨wb,0,none⟩),.pointer (some ⟨wb+1,0,none⟩),.slice none 0 0,.pointer (some ⟨wb+1+1,0,none⟩),.pointer (some ⟨c1,0,none⟩),.slice a l.length I,.func (.func 261) #[] #[.pointer (some ⟨wb+1+1+1,0,none⟩)],tv t.1 t.2,undef,undef,undef,undef,undef,undef,undef,undef,undef,undef,undef],defers:=[] })
  (fun t a' _ A B a0 hs hg hr=>by
   obtain⟨c1,h1,h3,h7⟩:=hs;exact⟨c1,h1,Bk.aO h3 hg (fun r e e'=>by
    obtain⟨_,o,h8,g⟩:=hr r e;subst e';unfold Bk at h3;rw[h3]at h8;cases h8;cases g),h7⟩)
  ?assign ?body ?done
 case assign=>
  rintro lq G t W K ⟨⟨v,h1,h2⟩,h5,h6⟩ V;have y3:mJ W.heap.size W (W.alloc (.cells #[.int .i64 t.1,.int .i64 t.2] 32)):=aG (oO _ _) _;have y8:=h6.size
  gi_wp2
  refine V _ _ ((KeepsOthers.alloc _ _).from _) (iK.below y3 h1.lt) ⟨⟨v,h1.keep y3,bJ h2 y3⟩,NY z0.out h5 y3,h6.trans (Kx.aA y3 y8)⟩ ⟨W.heap.size,y8,Bk.new _ _ rfl,rfl⟩
 case body=>
  rintro lq G ⟨X,Y⟩ a' Wb m5 ⟨rq,b1⟩ hI ⟨c1,n3,k1,rfl⟩ m4 b5;simp only at k1;obtain⟨⟨v,h1,h2⟩,h5,h6⟩:=hI;obtain⟨n,hn,y6,u4⟩:=b5;have d0:Hid ((jT l)[n]?=some (X,Y)):=by
   show _=_
   rw[List.getElem?_eq_getElem hn,<-u4];simp[gt,List.getD_eq_getElem?_getD,List.getElem?_eq_getElem hn]
  have v7:Hid (dZ kind l (G++[(X,Y)])=dZ kind l G++gD (X,Y) (eZ kind l (X,Y))):=CE kind l G (X,Y);have v8:Hid (∀L:List It,(∀v,aU L v=aU (dE kind (bL l X Y)) v-aU (cX (dZ kind l G) X Y) v)->aP cO L=eZ kind l (X,Y)):=fun L hL=>ET kind hk d0.out (by rw[<- y6];exact hL);have e9:Hid (∀r∈dZ kind l G,cU r=true /\ -2<=r.2/\r.2<=2):=fun r hr=>vO (fun t ht=>by rw[y6]at ht;exact Fm ht) hr;have x3:(dZ kind l G).length<=102400:=by have:=sD kind l G;omega
  have y8:=h6.size;have bA:Bk Wb wb #[.slice a l.length I] 28:=by unfold Bk;rw[h6.block wb (by omega) (by omega)];exact v5
  have bF:Bk Wb (wb+1) #[.func (.func fn) #[] #[]] 152:=by unfold Bk;rw[h6.block (wb+1) (by omega) (by omega)];exact v4
  have Rl:Rs Wb (.slice a l.length I) l:=HH.out.keep (by rw[z0.out];exact h5);have H6:=(show Hid (Kx W0.heap.size (wb+1+1) W0 Wb) from h6);have H5:=(show Hid (mJ wb w Wb) from h5);have v9:Hid ((eZ kind l (X,Y)).length<=1600):=BU kind l (X,Y);have b4:=A7 kind (gQ l X Y);have d3:Hid (aM (dE kind (bL l X Y))<=400):=by
   have:=B9 (m:=dE kind (bL l X Y)) (fun r hr=>xA (gQ l X Y) hr)
   show _<=_;omega
  have d4:Hid (kL (dZ kind l G) X Y (dE kind (bL l X Y))=eZ kind l (X,Y)):=v8.out _ fun v=>by rw[iQ,xS];omega
  have f0:Hid (∀(W1:fH)(u:fD),mJ Wb.heap.size Wb W1->Rs W1 u (gD (X,Y) (eZ kind l (X,Y)))->∃(o:fD)(W':fH),(Builtin.append_ #[28,28] 28 #[v,u]).run kX W1=.ok o W'/\(∃(q:Option Addr)(n c:Nat),o=.slice q n c)/\W'.frozen? ⟨wb+1+1,0,none⟩=false/\W'.cell? ⟨wb+1+1,0,none⟩=some v/\jU W0.heap.size Wb (W'.setCell ⟨wb+1+1,0,none⟩ o)/\iK (wb+1+1) Wb (W'.setCell ⟨wb+1+1,0,none⟩ o)/\C8 kind l wb w W0 (G++[(X,Y)]) (W'.setCell ⟨wb+1+1,0,none⟩ o)):=fun W1 u F hu=>by
   have x1:=bJ h2 F;have m2:(gD (X,Y) (eZ kind l (X,Y))).length<=1600:=by rw[tC];exact v9.out
   obtain⟨o,W',e1,e2,e3,e4⟩:=Ir 28 x1 hu (by omega) (by have:=F.size;omega);rw[<- v7.out]at e2;obtain⟨f1,f2,f3,f4,f5,f6,f7,f8⟩:=Ci h1 y2 (by omega) h2 F e3 e2 e4 h5 y8;have m3:=e3.size;have n4:=F.size;refine⟨o,W',e1,?_,f1,f2,f3,f4,⟨_,f5,f6⟩,f7,⟨f8,fun q hq hn=>?_⟩⟩
   ·obtain⟨ao,co,eo,-⟩:=Rs.open (aD.rs e2 (by have:=sD kind l (G++[(X,Y)]);simp at this;omega));exact⟨_,_,_,eo⟩
   ·rw[mJ.heap_setCell _ _ _ _ (show q≠(⟨wb+1+1,0,none⟩:Addr).block from hn),e3.block q (by omega) (fun e=>by have:=oB h2 q e.symm;omega),F.block q (by omega)];exact h6.block q hq hn
  have HX:Hid (∀W,mJ Wb.heap.size Wb W->Rs W (.slice a l.length I) l/\Bk W wb #[.slice a l.length I] 28/\Bk W (wb+1) #[.func (.func fn) #[] #[]] 152/\Bk W c1 #[.int .i64 X,.int .i64 Y] 32/\Bk W (wb+1+1) #[v] 28/\Rs W v (dZ kind l G)):=fun W F=>
   ⟨Rl.keep F,bA.keep F,bF.keep F,k1.keep F,h1.keep F,aD.rs (bJ h2 F) (by omega)⟩
  obtain⟨G1,v3⟩:∃G1:fH->fD->Prop,G1=fun W' o=>(∃(q:Option Addr)(n c:Nat),o=.slice q n c)/\W'.frozen? ⟨wb+1+1,0,none⟩=false/\W'.cell? ⟨wb+1+1,0,none⟩=some v/\jU W0.heap.size Wb (W'.setCell ⟨wb+1+1,0,none⟩ o)/\iK (wb+1+1) Wb (W'.setCell ⟨wb+1+1,0,none⟩ o)/\C8 kind l wb w W0 (G++[(X,Y)]) (W'.setCell ⟨wb+1+1,0,none⟩ o):=⟨_,rfl⟩;obtain⟨G2,v2⟩:∃G2:fH->Prop,G2=fun W'=>jU W0.heap.size Wb W'/\iK (wb+1+1) Wb W'/\C8 kind l wb w W0 (G++[(X,Y)]) W':=⟨_,rfl⟩;clear y6 u4 hn v5 v4 z7 v6 h6 h5 b1 R0 z4 v0 h1 h2 k1 bA bF Rl v7 v8
  gi_wp2
  refine rC (by kernel_rfl) (Jb kind l (gD (X,Y) (eZ kind l (X,Y))) (.slice a l.length I) (.func (.func fn) #[] #[]) v wb c1 (.func (.func 261) #[] #[.pointer (some ⟨wb+1+1+1,0,none⟩)]) X Y G1 G2 Wb) ?hg ?hs ?h0 ?hstep ?hend
  case hg=>
   intro i op ho;have hi:i<11:=(qA.1 ho).1;obtain rfl|rfl|rfl|rfl|rfl|rfl|rfl|rfl|rfl|rfl|rfl:i=0\/i=1\/i=2\/i=3\/i=4\/i=5\/i=6\/i=7\/i=8\/i=9\/i=10:=by omega
   all_goals cases ho;rfl
  case hs=>intro L a W hI;exact hI.1
  case h0=>
   refine⟨by simp,fun _=>(oO _ _).drew,fun e=>by simp at e,_,_,_,_,_,_,_,_,_,_,rfl,fun e=>by simp at e,fun _=>?_⟩;constructor<;>(intro e;simp at e)
  case hend=>
   rintro L ac W5 ⟨R,-,hF,-⟩ hr;have y9:∀j,j<11->L.getD j false=true:=by
    refine jI (by simpa using R) ?_ hr;intro i op ho;have hi:i<11:=(qA.1 ho).1;obtain rfl|rfl|rfl|rfl|rfl|rfl|rfl|rfl|rfl|rfl|rfl:i=0\/i=1\/i=2\/i=3\/i=4\/i=5\/i=6\/i=7\/i=8\/i=9\/i=10:=by omega
    all_goals cases ho
    all_goals (first|(simp;done)|(simp[Region.binds];done)|decide)
   have hq:=hF (y9 10 (by omega));rw[v2]at hq;clear hF y9 hr
   gi_wp2
   exact hq
  case hstep=>
   rintro L ac W i op x2 ⟨R,O,hF,t10,t11,t12,t13,t14,t15,t16,t17,t18,m1,rfl,hQ,J⟩ hi ho;have x3:L.getD 9 false=true->∀j,j<9->L.getD j false=true:=by
    intro l9;have l0:=x2 9 _ rfl l9 ⟨0,.data⟩ (by simp) rfl;have l8:=x2 9 _ rfl l9 ⟨8,.data⟩ (by simp) rfl;have l1:=x2 8 _ rfl l8 ⟨1,.data⟩ (by simp) rfl;have l2:=x2 8 _ rfl l8 ⟨2,.data⟩ (by simp) rfl;have l7:=x2 8 _ rfl l8 ⟨7,.data⟩ (by simp) rfl;have l3:=x2 7 _ rfl l7 ⟨3,.data⟩ (by simp) rfl;have l6:=x2 7 _ rfl l7 ⟨6,.data⟩ (by simp) rfl;have l4:=x2 6 _ rfl l6 ⟨4,.data⟩ (by simp) rfl;have l5:=x2 6 _ rfl l6 ⟨5,.data⟩ (by simp) rfl;intro j hj;obtain rfl|rfl|rfl|rfl|rfl|rfl|rfl|rfl|rfl:j=0\/j=1\/j=2\/j=3\/j=4\/j=5\/j=6\/j=7\/j=8:=by omega
    all_goals assumption
   have M:L.getD 10 false=true->L.getD 9 false=true:=fun a7=>x2 10 _ rfl a7 ⟨9,.data⟩ (by simp) rfl;clear x2;obtain⟨Q,o',u0,N⟩:=mem_ready.1 hi;rw[ho]at u0;cases u0;have g7:i<11:=(qA.1 ho).1;clear hi;generalize V:(fun a' w'=>Jb kind l (gD (X,Y) (eZ kind l (X,Y))) (.slice a l.length I) (.func (.func fn) #[] #[]) v wb c1 (.func (.func 261) #[] #[.pointer (some ⟨wb+1+1+1,0,none⟩)]) X Y G1 G2 Wb (L.setIfInBounds i true) a' w')=K';obtain rfl|rfl|rfl|rfl|rfl|rfl|rfl|rfl|rfl|rfl|rfl:i=0\/i=1\/i=2\/i=3\/i=4\/i=5\/i=6\/i=7\/i=8\/i=9\/i=10:=by omega
   ·cases ho;have g:L.getD 9 true=false:=sF Q (by omega) (by omega) (fun e=>x3 e _ (by omega));have H:L.getD 10 true=false:=sF g (by omega) (by omega) M;have F:=O g;have S:=J g;obtain⟨RL,BA,Z,U,T,RV⟩:=HX.out W F;clear hQ J hF O;have q0:=T.cell (i:=0) (v:=v) rfl;clear RL BA Z U T RV;go_simp;subst V;exact kU (by omega) R g H F (S.be rfl)
   ·cases ho;have g:L.getD 9 true=false:=sF Q (by omega) (by omega) (fun e=>x3 e _ (by omega));have H:L.getD 10 true=false:=sF g (by omega) (by omega) M;have F:=O g;have S:=J g;obtain⟨RL,BA,Z,U,T,RV⟩:=HX.out W F;clear hQ J hF O;have q0:=T.cell (i:=0) (v:=v) rfl;clear RL BA Z U T RV;go_simp;subst V;exact kU (by omega) R g H F (S.bG rfl)
   ·cases ho;have g:L.getD 9 true=false:=sF Q (by omega) (by omega) (fun e=>x3 e _ (by omega));have H:L.getD 10 true=false:=sF g (by omega) (by omega) M;have F:=O g;have S:=J g;obtain⟨RL,BA,Z,U,T,RV⟩:=HX.out W F;clear hQ J hF O;obtain⟨q0,q1,_,_⟩:=U.two;clear RL BA Z U T RV;go_simp;subst V;exact kU (by omega) R g H F (S.au rfl)
   ·cases ho;have g:L.getD 9 true=false:=sF Q (by omega) (by omega) (fun e=>x3 e _ (by omega));have H:L.getD 10 true=false:=sF g (by omega) (by omega) M;have F:=O g;have S:=J g;obtain⟨RL,BA,Z,U,T,RV⟩:=HX.out W F;clear hQ J hF O;have q0:=Z.cell (i:=0) (v:= .func (.func fn) #[] #[]) rfl;clear RL BA Z U T RV;go_simp;subst V;exact kU (by omega) R g H F (S.ar rfl)
   ·cases ho;have g:L.getD 9 true=false:=sF Q (by omega) (by omega) (fun e=>x3 e _ (by omega));have H:L.getD 10 true=false:=sF g (by omega) (by omega) M;have F:=O g;have S:=J g;obtain⟨RL,BA,Z,U,T,RV⟩:=HX.out W F;clear hQ J hF O;have q0:=BA.cell (i:=0) (v:= .slice a l.length I) rfl;clear RL BA Z U T RV;go_simp;subst V;exact kU (by omega) R g H F (S.aq rfl)
   ·cases ho;have g:L.getD 9 true=false:=sF Q (by omega) (by omega) (fun e=>x3 e _ (by omega));have H:L.getD 10 true=false:=sF g (by omega) (by omega) M;have F:=O g;have S:=J g;obtain⟨RL,BA,Z,U,T,RV⟩:=HX.out W F;clear hQ J hF O;obtain⟨q0,q1,_,_⟩:=U.two;clear RL BA Z U T RV;go_simp;subst V;exact kU (by omega) R g H F (S.ai rfl)
   ·cases ho;have g:L.getD 9 true=false:=sF Q (by omega) (by omega) (fun e=>x3 e _ (by omega));have H:L.getD 10 true=false:=sF g (by omega) (by omega) M;have F:=O g;have S:=J g;obtain⟨RL,BA,Z,U,T,RV⟩:=HX.out W F;clear hQ J hF O;have e4:=S.s4 (N ⟨4,.data⟩ (by simp) rfl);have e5:=S.s5 (N ⟨5,.data⟩ (by simp) rfl);subst e4 e5;clear BA Z U T RV;go_simp;refine⟨trivial,?_⟩;refine oJ lq (nU (fV.2 (GG _ l X Y W RL)) ?_);rintro e W1 ⟨o1,rfl,x1,x7⟩;have I1:=bZ.is x1 (by have:=Ce l X Y;omega);subst V;exact kU (by omega) R g H (aH F x7) ((S.keep x7).bm I1)
   ·cases ho;have g:L.getD 9 true=false:=sF Q (by omega) (by omega) (fun e=>x3 e _ (by omega));have H:L.getD 10 true=false:=sF g (by omega) (by omega) M;have F:=O g;have S:=J g;obtain⟨RL,BA,Z,U,T,RV⟩:=HX.out W F;clear hQ J hF O;have e3:=S.s3 (N ⟨3,.data⟩ (by simp) rfl);have e6:=S.s6 (N ⟨6,.data⟩ (by simp) rfl);subst e3;clear RL BA Z U T RV;go_simp;refine⟨trivial,?_⟩;refine oJ lq (nU (fV.2 (w9.out _ (bL l X Y) W e6)) ?_);rintro e W1 ⟨o1,rfl,x1,x7⟩;have I1:=bZ.is x1 (by omega);subst V;exact kU (by omega) R g H (aH F x7) ((S.keep x7).bl I1)
   ·cases ho;have g:L.getD 9 true=false:=sF Q (by omega) (by omega) (fun e=>x3 e _ (by omega));have H:L.getD 10 true=false:=sF g (by omega) (by omega) M;have F:=O g;have S:=J g;obtain⟨RL,BA,Z,U,T,RV⟩:=HX.out W F;clear hQ J hF O;have e1:=S.s1 (N ⟨1,.data⟩ (by simp) rfl);have e2:=S.s2 (N ⟨2,.data⟩ (by simp) rfl);have e7:=S.s7 (N ⟨7,.data⟩ (by simp) rfl);subst e1 e2;clear RL BA Z U T;go_simp;refine⟨trivial,?_⟩;refine oJ lq (nU (fV.2 (F7 _ (dZ kind l G) X Y _ (dE kind (bL l X Y)) W RV (fun r hr=>(e9.out r hr).1) (by omega) e7 b4 (by have:=d3.out;omega) (fun r hr=>Gc (r6 kind (gQ l X Y)) r hr))) ?_);rintro e W1 ⟨o1,rfl,x1,x7⟩;rw[d4.out]at x1;have R1:=aD.rs x1 (by rw[tC];have:=v9.out;omega);subst V;exact kU (by omega) R g H (aH F x7) ((S.keep x7).bj R1)
   ·cases ho;have H:L.getD 10 true=false:=sF Q (by omega) (by omega) M;have F:=O Q;have S:=J Q;have e0:=S.s0 (N ⟨0,.data⟩ (by simp) rfl);have e8:=S.s8 (N ⟨8,.data⟩ (by simp) rfl);subst e0;obtain⟨u,W2,e1,e2⟩:=f0.out W _ F e8;have b3:G1 W2 u:=by rw[v3];exact e2
    clear e2 S J hQ hF O;refine zP _ _ _ rfl rfl rfl e1 ?_;subst V;exact M1 R H b3
   ·cases ho;have l9:=N ⟨9,.data⟩ (by simp) rfl;have hq:=hQ l9 Q;rw[v3]at hq;obtain⟨⟨qa,qn,qc,rfl⟩,q1,q2,q3⟩:=hq;have b2:G2 (W.setCell ⟨wb+1+1,0,none⟩ (.slice qa qn qc)):=by rw[v2];exact q3
    clear q3 hQ J hF O;go_simp;subst V;exact Mm R l9 b2
 case done=>
  rintro D xs W hD J ⟨⟨v,h1,h2⟩,h5,h6⟩ V;have c0:=h1.cell (i:=0) (v:=v) rfl;subst J;have x3:=sD kind l (jT l);have hj:=mG l;obtain⟨b9,b6,rfl,-⟩:=Rs.open (aD.rs h2 (by omega));have O3:Hid (aD W W0.heap.size (.slice b9 (dZ kind l (jT l)).length b6) (dZ kind l (jT l))):=h2;clear h1 h2
  gi_wp2
  refine⟨by simp,.inl ⟨_,_,rfl,run_takeDeferred V,?_⟩⟩;refine⟨_,results_tmp rfl _ _ _,_,rfl,?_,?_⟩
  ·refine bQ (B:=W0.heap.size) ?_ (by have:=z0.out;omega);refine dF O3.out fun q e=>?_;obtain⟨c,u8⟩:=gP O3.out e;exact (grownBy_putObj' W D (.deferred none)).block q (oT O3.out q e) (fun e=>by cases e;unfold Bk at u8;rw[u8]at V;cases V)
  ·rw[z0.out];exact h5.trans (belowK_b (w:=W0) (by omega) W D _ _ hD V rfl rfl)
theorem Lz (w:fH):gZ kX 148 #[.int .i64 1] w fun e a=>e=.returned (.tuple #[.func (.func 198) #[] #[],.bool true])/\mJ w.heap.size w a:=by
 go_enter mF,lY;go_wp2_with fail;refine iC (by simp[results,lI,go_sem];try rfl) rfl ?_;exact⟨rfl,oO _ _⟩
theorem MA (w:fH):gZ kX 148 #[.int .i64 2] w fun e a=>e=.returned (.tuple #[.func (.func 199) #[] #[],.bool true])/\mJ w.heap.size w a:=by
 go_enter mF,lY;go_wp2_with fail;refine iC (by simp[results,lI,go_sem];try rfl) rfl ?_;exact⟨rfl,oO _ _⟩
theorem MJ (w:fH):gZ kX 148 #[.int .i64 3] w fun e a=>e=.returned (.tuple #[.func (.func 200) #[] #[],.bool true])/\mJ w.heap.size w a:=by
 go_enter mF,lY;go_wp2_with fail;refine iC (by simp[results,lI,go_sem];try rfl) rfl ?_;exact⟨rfl,oO _ _⟩
theorem Hg (kind:Int)(A:Nat)(eg:∀args w,(callFunc A args).run kX w=.ok (.enter A args) w)(F:∀(v:fD)(s:List It)(W:fH),Is W v s->gZ kX A #[v] W fun e g=>∃o:fD,e=.returned o/\bZ g W.heap.size o (dE kind s)/\mJ W.heap.size W g)
  (v:fD) (l:List Rw) (w:fH) (h:Rs w v l) (Z:aR l=true):
  gZ kX 174 #[v,.func (.func A) #[] #[]] w fun e g=>∃o:fD,e=.returned o/\aD g w.heap.size o (fT kind l)/\mJ w.heap.size w g:=by
 have HI:Hid (Rs w v l):=h;have V:=fP Z;have HC:Hid (∀(key:Int)(W:fH)(u:fD),Rs W u (aV l key)->gZ kX 224 #[u,.func (.func A) #[] #[]] W fun e g=>∃o:fD,e=.returned o/\aD g W.heap.size o (eX kind (aV l key))/\mJ W.heap.size W g):=fun key W u hR=>by
  obtain⟨a,x2,rfl,-⟩:=Rs.open hR;exact fV.1 (FO kind A eg F a x2 (aV l key) W (vA Z key) hR)
 have HL:Hid (∀k,(jV (fun k=>eX kind (aV l k)) k).length<=k*102400):=EO fun k=>r9 kind (aV l k);have x5:Hid (∀k,(eX kind (aV l k)).length<=102400):=fun k=>r9 kind (aV l k);have H4:Hid (jV (fun k=>eX kind (aV l k)) 4=fT kind l):=Bv kind l;clear h F;go_enter Tryz.func174,Tryz.ntmps174;go_wp2_with fail
 go_loopw [5,7] (fun o i wr=>∃k:Nat,k<=4/\i=.int .i64 k/\aD wr w.heap.size o (jV (fun k=>eX kind (aV l k)) k)/\mJ w.heap.size w wr) (fun _ i _=>4-(intOf i).toNat)
 case atStart=>exact⟨0,by omega,rfl,oN _ _ _ _ _,oO _ _⟩
 case round=>
  obtain⟨k,y9,rfl,G,N⟩:=hrel;have O:Hid (aD wr w.heap.size u5 (jV (fun k=>eX kind (aV l k)) k)):=G;clear G;have y7:=N.size
  by_cases y8:k<4
  ·have ik:(k:Int)<4:=by omega
   go_wp2_with fail;refine (Gy _ l k _ (HI.out.keep N) V).mono ?_;rintro e R ⟨T,rfl,D,M⟩;have R3:Rs R T (aV l k):=aD.rs D (by have:=pW l k;omega);have I:=aH N M;have Q:Hid (aD R w.heap.size u5 (jV (fun k=>eX kind (aV l k)) k)):=bJ O.out M;clear D O N M;go_wp2_with fail;refine (HC.out k R T R3).mono ?_;rintro e w4 ⟨o4,rfl,B,J⟩;have h1:=HL.out k;have h2:=x5.out k;have U:=aD.rs B (by omega);have H:=aH I J;have x8:=H.size;have O4:aD w4 w.heap.size u5 (jV (fun k=>eX kind (aV l k)) k):=bJ Q.out J;have HZ:Hid (jV (fun k=>eX kind (aV l k)) (k+1)=jV (fun k=>eX kind (aV l k)) k++eX kind (aV l k)):=rfl;clear Q J B R3 I;generalize jV (fun k=>eX kind (aV l k)) k=LL at*;generalize eX kind (aV l k)=MM at*
   go_wp2_with (at_builtin;refine kZ _ rfl _ _ rfl w.heap.size _ LL rfl O4 _ MM rfl U (by omega) (by omega) ?_;intro v5 w5 S h9)
   have x0:mJ w.heap.size w w5:=Below.aO H h9 (by omega) (oB O4);exact⟨⟨k+1,by omega,by go_num,by rw[HZ.out];exact S,x0⟩,by simp[intOf];omega⟩
  ·obtain rfl:k=4:=by omega
   rw[H4.out]at O;go_wp2_with fail;go_ret;exact⟨_,rfl,O.out,N⟩
structure LY (kind:Int)(fn:Nat):Prop where
 of:∀W,gZ kX 148 #[.int .i64 kind] W fun e w'=>e=.returned (.tuple #[.func (.func fn) #[] #[],.bool true])/\mJ W.heap.size W w'
 eg:∀args w,(callFunc fn args).run kX w=.ok (.enter fn args) w
 sum:∀(v:fD)(s:List It)(W:fH),Is W v s->gZ kX fn #[v] W fun e w'=>∃o:fD,e=.returned o/\bZ w' W.heap.size o (dE kind s)/\mJ W.heap.size W w'
theorem NQ (a:cH kind 1 3=true):∃A,LY kind A:=by
 have g:kind=1\/kind=2\/kind=3:=by simp[cH]at a;omega
 rcases g with rfl|rfl|rfl
 ·exact⟨198,Lz,enters_of Tryz.func198 (by kernel_rfl) rfl,fun v s W h=>by rw[<- JL];exact AP v s W h⟩
 ·exact⟨199,MA,enters_of Tryz.func199 (by kernel_rfl) rfl,fun v s W h=>by rw[<- Ke];exact tJ v s W h⟩
 ·exact⟨200,MJ,enters_of Tryz.func200 (by kernel_rfl) rfl,fun v s W h=>by rw[<- Iw];exact AB v s W h⟩
theorem FP {a:Nat}(H:LY kind a)(v:fD)(l:List Rw)(w:fH)(h:Rs w v l)(s:aR l=true):
  gZ kX 174 #[v,.func (.func a) #[] #[]] w fun e g=>∃o:fD,e=.returned o/\aD g w.heap.size o (fT kind l)/\mJ w.heap.size w g:=Hg kind a H.eg H.sum v l w h s
end Go.Proofs.YtbdpcngcbnoioaaGreatDoor
