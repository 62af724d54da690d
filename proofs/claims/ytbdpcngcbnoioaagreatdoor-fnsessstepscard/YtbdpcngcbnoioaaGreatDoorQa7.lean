import Derived.Test.YtbdpcngcbnoioaaGreatDoorGqb
import Derived.Test.YtbdpcngcbnoioaaGreatDoorGd4
set_option maxRecDepth 100000
set_option maxHeartbeats 32000000
namespace Go.Proofs.YtbdpcngcbnoioaaGreatDoor
open Go.RowKit Go.Shelf
open Go.RowKit.Below renaming heap_setCell->fD,refl->fH
open _root_.Array renaming getD_eq_getD_getElem?->fV,getElem?_eq_some_iff->gY
open Go.RowKit renaming Below->gZ
open Go renaming World->iC,Value->jU,Addr->kR
variable {L:Array Bool}{i j q y:Nat}{u:jU}{x:Option kR}
attribute [local go_sem ↓] Go.wp_at_zero Go.wp_at_succ
section
variable {o:Oper}{a:Act}{Kk:Act->iC->Prop}{Q:Exit->Act->iC->Prop}
theorem NS (w:iC)(D:o.guard=none)(s x:Operand)(ho:o.op=.call { callee:= .builtin .append,args:=#[s,x],argTypes:=#[27,27] })
  (g:Nat) (v:jU) (l:LI) (hs:a.eval s=v) (G:aW w g v l) (F:jU) (m:LI) (hx:a.eval x=F) (H:Ts w F m) (hl:l.length+m.length<=2000000) (B:g<=w.heap.size)
  (h:∀v' w',aW w' g v' (l++m)->w.grownBy w' v.ownBlock->Kk (a.put o.dst v') w'):Oper.wp Tryz.prog o a w Kk Q:=by
 have:=NV (ops:=#[]) (E:=False) (Q:=Q) w D s x ho g v l hs G F m hx H hl B h
 rwa [if_pos (by simp[Region.wanted,D])]at this
theorem NK (w:iC)(D:o.guard=none)(s x:Operand)(ho:o.op=.call { callee:= .builtin .append,args:=#[s,x],argTypes:=#[28,28] })
  (g:Nat) (v:jU) (l:List Rw) (hs:a.eval s=v) (G:aD w g v l) (F:jU) (m:List Rw) (hx:a.eval x=F) (H:Rs w F m) (hl:l.length+m.length<=2000000) (B:g<=w.heap.size)
  (h:∀v' w',aD w' g v' (l++m)->w.grownBy w' v.ownBlock->Kk (a.put o.dst v') w'):Oper.wp Tryz.prog o a w Kk Q:=by
 have:=iU (ops:=#[]) (E:=False) (Q:=Q) w D s x ho g v l hs G F m hx H hl B h
 rwa [if_pos (by simp[Region.wanted,D])]at this
end
theorem dR.dr {p:Nat->Prop}{q:Nat}{w w':iC}{F:TypeId}(D:Bk w q #[] F)(hx:∀x,x<w.heap.size->x≠q->w'.heap[x]?=w.heap[x]?):∀{t:PT}{s:jU},dR p w t s->dR p w' t s
 | .n0 _ _,_,h=>h
 | .n1 _ _ _,_,⟨g,c,sx,e,hp,h1,h2,h3,h4⟩=>
  have B:=hx g (lC h1) (no_cell D h1)
  ⟨g,c,sx,e,hp,eA B h1,eA B h2,eA B h3,dR.dr D hx h4⟩
 | .n2 _ _ _ _,_,⟨g,c,sx,sy,e,hp,h1,h2,h3,h4,h5,h6,h7,h8⟩=>
  have B:=hx g (lC h1) (no_cell D h1)
  ⟨g,c,sx,sy,e,hp,eA B h1,eA B h2,eA B h3,eA B h4,eA B h5,eA B h6,dR.dr D hx h7,dR.dr D hx h8⟩
where
 no_cell {w:iC} {g q i:Nat} {v:jU} {F:TypeId} (D:Bk w q #[] F) (h:w.cell? ⟨g,i,none⟩=some v):g≠q:=fun e=>by
  subst e;unfold Bk at D;simp[iC.cell?,D]at h
theorem dR.wk {p q:Nat->Prop}{w:iC}{t:PT}{s:jU}(h:dR p w t s)(H:∀g,p g->q g):dR q w t s:=h.move fun g hp _=>⟨H g hp,rfl⟩
structure dO (s:SS)(A N:Nat)(a0 a2 a3:Option kR)(c0 c2 c3:Nat)(L:Array Bool)(W:iC)(t3 t5 t6 t7 t8 t9 t10 t11 t12 t13 t14 t15 t16:jU):Prop where
 s0:L.getD 0 false=true->t5=.pointer (some ⟨A,0,none⟩)
 s1:L.getD 1 false=true->t6=pl s.t.k s.t.n (.slice a0 s.t.len c0)
 s2:L.getD 2 false=true->∃ak ck,t7=pl s.t.k s.t.n (.slice ak s.t.len ck)/\dR (fun g=>N<=g/\(L.getD 12 false=true->t3≠ .pointer (some ⟨g,0,none⟩))) W s.t (.slice ak s.t.len ck)
 s3:L.getD 3 false=true->L.getD 6 true=false->∃q,t8=.slice (some ⟨q,0,none⟩) 0 0/\N<=q/\Bk W q #[] 32
 s4:L.getD 4 false=true->t9=.pointer (some ⟨A,4,none⟩)
 s5:L.getD 5 false=true->t10=.slice a2 s.f.length c2
 s6:L.getD 6 false=true->∃a c,t11=.slice a s.f.length c/\aW W N (.slice a s.f.length c) s.f
 s7:L.getD 7 false=true->L.getD 10 true=false->∃q,t12=.slice (some ⟨q,0,none⟩) 0 0/\N<=q/\Bk W q #[] 55
 s8:L.getD 8 false=true->t13=.pointer (some ⟨A,5,none⟩)
 s9:L.getD 9 false=true->t14=.slice a3 s.d.length c3
 s10:L.getD 10 false=true->∃a c,t15=.slice a s.d.length c/\aD W N (.slice a s.d.length c) s.d
 s11:L.getD 11 false=true->∃ak ck a c a' c',t16=sv s.t.k s.t.n (.slice ak s.t.len ck) bM (.slice a s.f.length c) (.slice a' s.d.length c')/\t7=pl s.t.k s.t.n (.slice ak s.t.len ck)/\t11=.slice a s.f.length c/\t15=.slice a' s.d.length c'
 s12:L.getD 12 false=true->L.getD 13 true=false->∃q,t3=.pointer (some ⟨q,0,none⟩)/\N<=q/\Bk W q #[.int .i64 0,.int .i64 0,.slice none 0 0,.slice none 0 0,.slice none 0 0,.slice none 0 0] 30
 s13:L.getD 13 false=true->∃q ak ck a c a' c',t3=.pointer (some ⟨q,0,none⟩)/\N<=q/\Bk W q #[.int .i64 s.t.k,.int .i64 s.t.n,.slice ak s.t.len ck,bM,.slice a s.f.length c,.slice a' s.d.length c'] 30/\t7=pl s.t.k s.t.n (.slice ak s.t.len ck)/\t11=.slice a s.f.length c/\t15=.slice a' s.d.length c'
 c11:L.getD 11 false=true->L.getD 2 false=true/\L.getD 6 false=true/\L.getD 10 false=true
 c13:L.getD 13 false=true->L.getD 11 false=true/\L.getD 12 false=true
variable {s:SS}{A N:Nat}{a0 a2 a3:Option kR}{c0 c2 c3:Nat}{L:Array Bool}{W W':iC}{t3 t5 t6 t7 t8 t9 t10 t11 t12 t13 t14 t15 t16:jU}
theorem dO.keep (h:dO s A N a0 a2 a3 c0 c2 c3 L W t3 t5 t6 t7 t8 t9 t10 t11 t12 t13 t14 t15 t16)(g:gZ W.heap.size W W'):dO s A N a0 a2 a3 c0 c2 c3 L W' t3 t5 t6 t7 t8 t9 t10 t11 t12 t13 t14 t15 t16 where
 s0:=h.s0
 s1:=h.s1
 s2:=fun e=>by obtain⟨F,D,h1,h2⟩:=h.s2 e;exact⟨F,D,h1,h2.keep g⟩
 s3:=fun e B=>by obtain⟨q,h1,h2,h3⟩:=h.s3 e B;exact⟨q,h1,h2,h3.keep g⟩
 s4:=h.s4
 s5:=h.s5
 s6:=fun e=>by obtain⟨x,y,h1,h2⟩:=h.s6 e;exact⟨x,y,h1,bJ h2 g⟩
 s7:=fun e B=>by obtain⟨q,h1,h2,h3⟩:=h.s7 e B;exact⟨q,h1,h2,h3.keep g⟩
 s8:=h.s8
 s9:=h.s9
 s10:=fun e=>by obtain⟨x,y,h1,h2⟩:=h.s10 e;exact⟨x,y,h1,bJ h2 g⟩
 s11:=h.s11
 s12:=fun e B=>by obtain⟨q,h1,h2,h3⟩:=h.s12 e B;exact⟨q,h1,h2,h3.keep g⟩
 s13:=fun e=>by obtain⟨q,F,D,x,y,H,G,h1,h2,h3,h4⟩:=h.s13 e;exact⟨q,F,D,x,y,H,G,h1,h2,h3.keep g,h4⟩
 c11:=h.c11
 c13:=h.c13
theorem a9 (h:L.getD j false=true):(L.setIfInBounds i true).getD j false=true:=by
 simp only[fV,Array.getElem?_setIfInBounds]at h ⊢
 by_cases e:i=j
 ·subst e
  by_cases hl:i<L.size
  ·simp[hl]
  ·simp[Array.getElem?_eq_none (show L.size<=i by omega)]at h
 ·rw[if_neg e];exact h
theorem gN (h:L.getD j false=true)(g:L.getD j true=false):False:=by
 simp only[fV]at h g;cases e:L[j]?<;>simp[e]at h g;rw[h]at g;cases g
theorem IN {g:Nat}(h:q≠g)(e:jU.pointer (some ⟨q,0,none⟩)=.pointer (some ⟨g,0,none⟩)):False:=h (congrArg kR.block (Option.some.inj (jU.pointer.inj e)))
theorem lK {z:Nat}(e:(jU.slice (some ⟨q,0,none⟩) 0 0).ownBlock=some z):q=z:=by simpa[jU.ownBlock]using e
theorem gH {b:Bool}(h:i<L.size):(L.setIfInBounds i true).getD i b=true:=by
 simp[fV,h]
theorem dO.be (h:dO s A N a0 a2 a3 c0 c2 c3 L W t3 t5 t6 t7 t8 t9 t10 t11 t12 t13 t14 t15 t16)(H:u=.pointer (some ⟨A,0,none⟩)):dO s A N a0 a2 a3 c0 c2 c3 (L.setIfInBounds 0 true) W t3 u t6 t7 t8 t9 t10 t11 t12 t13 t14 t15 t16:=by
 have I:=h;cases I;constructor
 case s0=>exact fun _=>H
 case s2=>exact fun e=>by obtain⟨O,M,h1,h2⟩:=h.s2 (gS e);exact⟨O,M,h1,h2.wk fun g hg=>⟨hg.1,fun J=>hg.2 (gS J)⟩⟩
 case c11=>exact fun e=>by obtain⟨D,B,G⟩:=h.c11 (gS e);exact⟨a9 D,a9 B,a9 G⟩
 case c13=>exact fun e=>by obtain⟨D,B⟩:=h.c13 (gS e);exact⟨a9 D,a9 B⟩
 all_goals (intro e;replace e:=gS e;first|solve_by_elim|exact a9 (by solve_by_elim)|(intro F;replace F:=gT F;solve_by_elim))
theorem dO.bG (h:dO s A N a0 a2 a3 c0 c2 c3 L W t3 t5 t6 t7 t8 t9 t10 t11 t12 t13 t14 t15 t16)(H:u=pl s.t.k s.t.n (.slice a0 s.t.len c0)):dO s A N a0 a2 a3 c0 c2 c3 (L.setIfInBounds 1 true) W t3 t5 u t7 t8 t9 t10 t11 t12 t13 t14 t15 t16:=by
 have I:=h;cases I;constructor
 case s1=>exact fun _=>H
 case s2=>exact fun e=>by obtain⟨O,M,h1,h2⟩:=h.s2 (gS e);exact⟨O,M,h1,h2.wk fun g hg=>⟨hg.1,fun J=>hg.2 (gS J)⟩⟩
 case c11=>exact fun e=>by obtain⟨D,B,G⟩:=h.c11 (gS e);exact⟨a9 D,a9 B,a9 G⟩
 case c13=>exact fun e=>by obtain⟨D,B⟩:=h.c13 (gS e);exact⟨a9 D,a9 B⟩
 all_goals (intro e;replace e:=gS e;first|solve_by_elim|exact a9 (by solve_by_elim)|(intro F;replace F:=gT F;solve_by_elim))
theorem dO.aq (h:dO s A N a0 a2 a3 c0 c2 c3 L W t3 t5 t6 t7 t8 t9 t10 t11 t12 t13 t14 t15 t16)(H:u=.pointer (some ⟨A,4,none⟩)):dO s A N a0 a2 a3 c0 c2 c3 (L.setIfInBounds 4 true) W t3 t5 t6 t7 t8 u t10 t11 t12 t13 t14 t15 t16:=by
 have I:=h;cases I;constructor
 case s2=>exact fun e=>by obtain⟨O,M,h1,h2⟩:=h.s2 (gS e);exact⟨O,M,h1,h2.wk fun g hg=>⟨hg.1,fun J=>hg.2 (gS J)⟩⟩
 case s4=>exact fun _=>H
 case c11=>exact fun e=>by obtain⟨D,B,G⟩:=h.c11 (gS e);exact⟨a9 D,a9 B,a9 G⟩
 case c13=>exact fun e=>by obtain⟨D,B⟩:=h.c13 (gS e);exact⟨a9 D,a9 B⟩
 all_goals (intro e;replace e:=gS e;first|solve_by_elim|exact a9 (by solve_by_elim)|(intro F;replace F:=gT F;solve_by_elim))
theorem dO.ai (h:dO s A N a0 a2 a3 c0 c2 c3 L W t3 t5 t6 t7 t8 t9 t10 t11 t12 t13 t14 t15 t16)(H:u=.slice a2 s.f.length c2):dO s A N a0 a2 a3 c0 c2 c3 (L.setIfInBounds 5 true) W t3 t5 t6 t7 t8 t9 u t11 t12 t13 t14 t15 t16:=by
 have I:=h;cases I;constructor
 case s2=>exact fun e=>by obtain⟨O,M,h1,h2⟩:=h.s2 (gS e);exact⟨O,M,h1,h2.wk fun g hg=>⟨hg.1,fun J=>hg.2 (gS J)⟩⟩
 case s5=>exact fun _=>H
 case c11=>exact fun e=>by obtain⟨D,B,G⟩:=h.c11 (gS e);exact⟨a9 D,a9 B,a9 G⟩
 case c13=>exact fun e=>by obtain⟨D,B⟩:=h.c13 (gS e);exact⟨a9 D,a9 B⟩
 all_goals (intro e;replace e:=gS e;first|solve_by_elim|exact a9 (by solve_by_elim)|(intro F;replace F:=gT F;solve_by_elim))
theorem dO.bj (h:dO s A N a0 a2 a3 c0 c2 c3 L W t3 t5 t6 t7 t8 t9 t10 t11 t12 t13 t14 t15 t16)(H:u=.pointer (some ⟨A,5,none⟩)):dO s A N a0 a2 a3 c0 c2 c3 (L.setIfInBounds 8 true) W t3 t5 t6 t7 t8 t9 t10 t11 t12 u t14 t15 t16:=by
 have I:=h;cases I;constructor
 case s2=>exact fun e=>by obtain⟨O,M,h1,h2⟩:=h.s2 (gS e);exact⟨O,M,h1,h2.wk fun g hg=>⟨hg.1,fun J=>hg.2 (gS J)⟩⟩
 case s8=>exact fun _=>H
 case c11=>exact fun e=>by obtain⟨D,B,G⟩:=h.c11 (gS e);exact⟨a9 D,a9 B,a9 G⟩
 case c13=>exact fun e=>by obtain⟨D,B⟩:=h.c13 (gS e);exact⟨a9 D,a9 B⟩
 all_goals (intro e;replace e:=gS e;first|solve_by_elim|exact a9 (by solve_by_elim)|(intro F;replace F:=gT F;solve_by_elim))
theorem dO.cE (h:dO s A N a0 a2 a3 c0 c2 c3 L W t3 t5 t6 t7 t8 t9 t10 t11 t12 t13 t14 t15 t16)(H:u=.slice a3 s.d.length c3):dO s A N a0 a2 a3 c0 c2 c3 (L.setIfInBounds 9 true) W t3 t5 t6 t7 t8 t9 t10 t11 t12 t13 u t15 t16:=by
 have I:=h;cases I;constructor
 case s2=>exact fun e=>by obtain⟨O,M,h1,h2⟩:=h.s2 (gS e);exact⟨O,M,h1,h2.wk fun g hg=>⟨hg.1,fun J=>hg.2 (gS J)⟩⟩
 case s9=>exact fun _=>H
 case c11=>exact fun e=>by obtain⟨D,B,G⟩:=h.c11 (gS e);exact⟨a9 D,a9 B,a9 G⟩
 case c13=>exact fun e=>by obtain⟨D,B⟩:=h.c13 (gS e);exact⟨a9 D,a9 B⟩
 all_goals (intro e;replace e:=gS e;first|solve_by_elim|exact a9 (by solve_by_elim)|(intro F;replace F:=gT F;solve_by_elim))
theorem dO.au (O:L.getD 11 false=true->False)(H:L.getD 13 false=true->False)(h:dO s A N a0 a2 a3 c0 c2 c3 L W t3 t5 t6 t7 t8 t9 t10 t11 t12 t13 t14 t15 t16)(M:∃D B,u=pl s.t.k s.t.n (.slice D s.t.len B)/\dR (fun g=>N<=g/\(L.getD 12 false=true->t3≠ .pointer (some ⟨g,0,none⟩))) W s.t (.slice D s.t.len B)):dO s A N a0 a2 a3 c0 c2 c3 (L.setIfInBounds 2 true) W t3 t5 t6 u t8 t9 t10 t11 t12 t13 t14 t15 t16:=by
 have R:=h;cases R;constructor
 case s2=>exact fun _=>by obtain⟨D,B,h1,h2⟩:=M;exact⟨D,B,h1,h2.wk fun g hg=>⟨hg.1,fun S=>hg.2 (gS S)⟩⟩
 case s11=>exact fun e=>(O (gS e)).elim
 case s13=>exact fun e=>(H (gS e)).elim
 case c11=>exact fun e=>by obtain⟨G,F,J⟩:=h.c11 (gS e);exact⟨a9 G,a9 F,a9 J⟩
 case c13=>exact fun e=>by obtain⟨G,F⟩:=h.c13 (gS e);exact⟨a9 G,a9 F⟩
 all_goals (intro e;replace e:=gS e;first|solve_by_elim|exact a9 (by solve_by_elim)|(intro I;replace I:=gT I;solve_by_elim))
theorem dO.ar (h:dO s A N a0 a2 a3 c0 c2 c3 L W t3 t5 t6 t7 t8 t9 t10 t11 t12 t13 t14 t15 t16)(hq:N<=q)(H:Bk W q #[] 32):dO s A N a0 a2 a3 c0 c2 c3 (L.setIfInBounds 3 true) W t3 t5 t6 t7 (.slice (some ⟨q,0,none⟩) 0 0) t9 t10 t11 t12 t13 t14 t15 t16:=by
 have I:=h;cases I;constructor
 case s2=>exact fun e=>by obtain⟨O,M,h1,h2⟩:=h.s2 (gS e);exact⟨O,M,h1,h2.wk fun g hg=>⟨hg.1,fun J=>hg.2 (gS J)⟩⟩
 case s3=>exact fun _ _=>⟨q,rfl,hq,H⟩
 case c11=>exact fun e=>by obtain⟨D,B,G⟩:=h.c11 (gS e);exact⟨a9 D,a9 B,a9 G⟩
 case c13=>exact fun e=>by obtain⟨D,B⟩:=h.c13 (gS e);exact⟨a9 D,a9 B⟩
 all_goals (intro e;replace e:=gS e;first|solve_by_elim|exact a9 (by solve_by_elim)|(intro F;replace F:=gT F;solve_by_elim))
theorem dO.bl (h:dO s A N a0 a2 a3 c0 c2 c3 L W t3 t5 t6 t7 t8 t9 t10 t11 t12 t13 t14 t15 t16)(hq:N<=q)(H:Bk W q #[] 55):dO s A N a0 a2 a3 c0 c2 c3 (L.setIfInBounds 7 true) W t3 t5 t6 t7 t8 t9 t10 t11 (.slice (some ⟨q,0,none⟩) 0 0) t13 t14 t15 t16:=by
 have I:=h;cases I;constructor
 case s2=>exact fun e=>by obtain⟨O,M,h1,h2⟩:=h.s2 (gS e);exact⟨O,M,h1,h2.wk fun g hg=>⟨hg.1,fun J=>hg.2 (gS J)⟩⟩
 case s7=>exact fun _ _=>⟨q,rfl,hq,H⟩
 case c11=>exact fun e=>by obtain⟨D,B,G⟩:=h.c11 (gS e);exact⟨a9 D,a9 B,a9 G⟩
 case c13=>exact fun e=>by obtain⟨D,B⟩:=h.c13 (gS e);exact⟨a9 D,a9 B⟩
 all_goals (intro e;replace e:=gS e;first|solve_by_elim|exact a9 (by solve_by_elim)|(intro F;replace F:=gT F;solve_by_elim))
theorem dO.bm (U:L.size=14)(M:L.getD 11 false=true->False)(H:L.getD 13 false=true->False)(h:dO s A N a0 a2 a3 c0 c2 c3 L W t3 t5 t6 t7 t8 t9 t10 t11 t12 t13 t14 t15 t16)(hq:Bk W q #[] 32)(hx:∀x,x<W.heap.size->x≠q->W'.heap[x]?=W.heap[x]?)(J:aW W' N (.slice x s.f.length y) s.f):dO s A N a0 a2 a3 c0 c2 c3 (L.setIfInBounds 6 true) W' t3 t5 t6 t7 t8 t9 t10 (.slice x s.f.length y) t12 t13 t14 t15 t16:=by
 have O:=h;cases O;constructor
 case s2=>exact fun e=>by obtain⟨T,S,h1,h2⟩:=h.s2 (gS e);exact⟨T,S,h1,(h2.dr hq hx).wk fun g hg=>⟨hg.1,fun R=>hg.2 (gS R)⟩⟩
 case s3=>exact fun _ D=>absurd D (by rw[gH (by omega)];decide)
 case s6=>exact fun _=>⟨x,y,rfl,J⟩
 case s7=>exact fun e D=>by obtain⟨B,h1,h2,h3⟩:=h.s7 (gS e) (gT D);exact⟨B,h1,h2,by unfold Bk;rw[hx B h3.lt (bK h3 hq (by decide))];exact h3⟩
 case s10=>exact fun e=>by obtain⟨x,y,h1,h2⟩:=h.s10 (gS e);exact⟨x,y,h1,dF h2 fun b e=>hx b (oT h2 b e) (by obtain⟨d,hd⟩:=gP h2 e;exact bK hd hq (by decide))⟩
 case s11=>exact fun e=>(M (gS e)).elim
 case s12=>exact fun e D=>by obtain⟨B,h1,h2,h3⟩:=h.s12 (gS e) (gT D);exact⟨B,h1,h2,by unfold Bk;rw[hx B h3.lt (bK h3 hq (by decide))];exact h3⟩
 case s13=>exact fun e=>(H (gS e)).elim
 case c11=>exact fun e=>by obtain⟨G,F,I⟩:=h.c11 (gS e);exact⟨a9 G,a9 F,a9 I⟩
 case c13=>exact fun e=>by obtain⟨G,F⟩:=h.c13 (gS e);exact⟨a9 G,a9 F⟩
 all_goals (intro e;replace e:=gS e;first|solve_by_elim|exact a9 (by solve_by_elim))
theorem dO.bC (U:L.size=14)(M:L.getD 11 false=true->False)(H:L.getD 13 false=true->False)(h:dO s A N a0 a2 a3 c0 c2 c3 L W t3 t5 t6 t7 t8 t9 t10 t11 t12 t13 t14 t15 t16)(hq:Bk W q #[] 55)(hx:∀x,x<W.heap.size->x≠q->W'.heap[x]?=W.heap[x]?)(J:aD W' N (.slice x s.d.length y) s.d):dO s A N a0 a2 a3 c0 c2 c3 (L.setIfInBounds 10 true) W' t3 t5 t6 t7 t8 t9 t10 t11 t12 t13 t14 (.slice x s.d.length y) t16:=by
 have O:=h;cases O;constructor
 case s2=>exact fun e=>by obtain⟨T,S,h1,h2⟩:=h.s2 (gS e);exact⟨T,S,h1,(h2.dr hq hx).wk fun g hg=>⟨hg.1,fun R=>hg.2 (gS R)⟩⟩
 case s3=>exact fun e D=>by obtain⟨B,h1,h2,h3⟩:=h.s3 (gS e) (gT D);exact⟨B,h1,h2,by unfold Bk;rw[hx B h3.lt (bK h3 hq (by decide))];exact h3⟩
 case s6=>exact fun e=>by obtain⟨x,y,h1,h2⟩:=h.s6 (gS e);exact⟨x,y,h1,dF h2 fun b e=>hx b (oT h2 b e) (by obtain⟨d,hd⟩:=mZ h2 e;exact bK hd hq (by decide))⟩
 case s7=>exact fun _ D=>absurd D (by rw[gH (by omega)];decide)
 case s10=>exact fun _=>⟨x,y,rfl,J⟩
 case s11=>exact fun e=>(M (gS e)).elim
 case s12=>exact fun e D=>by obtain⟨B,h1,h2,h3⟩:=h.s12 (gS e) (gT D);exact⟨B,h1,h2,by unfold Bk;rw[hx B h3.lt (bK h3 hq (by decide))];exact h3⟩
 case s13=>exact fun e=>(H (gS e)).elim
 case c11=>exact fun e=>by obtain⟨G,F,I⟩:=h.c11 (gS e);exact⟨a9 G,a9 F,a9 I⟩
 case c13=>exact fun e=>by obtain⟨G,F⟩:=h.c13 (gS e);exact⟨a9 G,a9 F⟩
 all_goals (intro e;replace e:=gS e;first|solve_by_elim|exact a9 (by solve_by_elim))
theorem dO.az (B:L.getD 2 false=true/\L.getD 6 false=true/\L.getD 10 false=true)(h:dO s A N a0 a2 a3 c0 c2 c3 L W t3 t5 t6 t7 t8 t9 t10 t11 t12 t13 t14 t15 t16)(M:∃F D a c a' H,u=sv s.t.k s.t.n (.slice F s.t.len D) bM (.slice a s.f.length c) (.slice a' s.d.length H)/\t7=pl s.t.k s.t.n (.slice F s.t.len D)/\t11=.slice a s.f.length c/\t15=.slice a' s.d.length H):dO s A N a0 a2 a3 c0 c2 c3 (L.setIfInBounds 11 true) W t3 t5 t6 t7 t8 t9 t10 t11 t12 t13 t14 t15 u:=by
 have O:=h;cases O;constructor
 case s2=>exact fun e=>by obtain⟨F,D,h1,h2⟩:=h.s2 (gS e);exact⟨F,D,h1,h2.wk fun g hg=>⟨hg.1,fun R=>hg.2 (gS R)⟩⟩
 case s11=>exact fun _=>M
 case c11=>exact fun _=>⟨a9 B.1,a9 B.2.1,a9 B.2.2⟩
 case c13=>exact fun e=>by obtain⟨J,I⟩:=h.c13 (gS e);exact⟨a9 J,a9 I⟩
 all_goals (intro e;replace e:=gS e;first|solve_by_elim|exact a9 (by solve_by_elim)|(intro G;replace G:=gT G;solve_by_elim))
theorem dO.aw (H:L.getD 13 false=true->False)(h:dO s A N a0 a2 a3 c0 c2 c3 L W t3 t5 t6 t7 t8 t9 t10 t11 t12 t13 t14 t15 t16)(hn:N<=q)(hq:Bk W' q #[.int .i64 0,.int .i64 0,.slice none 0 0,.slice none 0 0,.slice none 0 0,.slice none 0 0] 30)(B:gZ W.heap.size W W')(R:q=W.heap.size):dO s A N a0 a2 a3 c0 c2 c3 (L.setIfInBounds 12 true) W' (.pointer (some ⟨q,0,none⟩)) t5 t6 t7 t8 t9 t10 t11 t12 t13 t14 t15 t16 where
 s0:=fun e=>(h.keep B).s0 (gS e)
 s1:=fun e=>(h.keep B).s1 (gS e)
 s2:=fun e=>by obtain⟨O,M,h1,h2⟩:=h.s2 (gS e);exact⟨O,M,h1,h2.move fun g hg hl=>⟨⟨hg.1,fun _ J=>IN (by omega) J⟩,B.block g hl⟩⟩
 s3:=fun e G=>(h.keep B).s3 (gS e) (gT G)
 s4:=fun e=>(h.keep B).s4 (gS e)
 s5:=fun e=>(h.keep B).s5 (gS e)
 s6:=fun e=>(h.keep B).s6 (gS e)
 s7:=fun e G=>(h.keep B).s7 (gS e) (gT G)
 s8:=fun e=>(h.keep B).s8 (gS e)
 s9:=fun e=>(h.keep B).s9 (gS e)
 s10:=fun e=>(h.keep B).s10 (gS e)
 s11:=fun e=>(h.keep B).s11 (gS e)
 s12:=fun _ _=>⟨q,rfl,hn,hq⟩
 s13:=fun e=>(H (gS e)).elim
 c11:=fun e=>by obtain⟨F,D,I⟩:=h.c11 (gS e);exact⟨a9 F,a9 D,a9 I⟩
 c13:=fun e=>by obtain⟨F,D⟩:=h.c13 (gS e);exact⟨a9 F,a9 D⟩
theorem dO.bu {F I:Nat}{G J:Option kR}(x5:L.size=14)(M:L.getD 11 false=true)(H:L.getD 12 false=true)(h:dO s A N a0 a2 a3 c0 c2 c3 L W t3 t5 t6 t7 t8 t9 t10 t11 t12 t13 t14 t15 t16)(h3:t3=.pointer (some ⟨q,0,none⟩))(hn:N<=q)(hq:Bk W q #[.int .i64 0,.int .i64 0,.slice none 0 0,.slice none 0 0,.slice none 0 0,.slice none 0 0] 30)(hx:∀x,x<W.heap.size->x≠q->W'.heap[x]?=W.heap[x]?)(Y:Bk W' q #[.int .i64 s.t.k,.int .i64 s.t.n,.slice G s.t.len F,bM,.slice x s.f.length y,.slice J s.d.length I] 30)(e7:t7=pl s.t.k s.t.n (.slice G s.t.len F))(R:t11=.slice x s.f.length y)(O:t15=.slice J s.d.length I):dO s A N a0 a2 a3 c0 c2 c3 (L.setIfInBounds 13 true) W' t3 t5 t6 t7 t8 t9 t10 t11 t12 t13 t14 t15 t16:=by
 have Z:=h;cases Z;constructor
 case s2=>exact fun e=>by obtain⟨G,F,h1,h2⟩:=h.s2 (gS e);exact⟨G,F,h1,h2.move fun g hg hl=>⟨⟨hg.1,fun e3=>hg.2 (gS e3)⟩,hx g hl fun e4=>hg.2 H (by rw[h3,e4])⟩⟩
 case s3=>exact fun e D=>by obtain⟨B,h1,h2,h3⟩:=h.s3 (gS e) (gT D);exact⟨B,h1,h2,by unfold Bk;rw[hx B h3.lt (bK h3 hq (by decide))];exact h3⟩
 case s6=>exact fun e=>by obtain⟨x,y,h1,h2⟩:=h.s6 (gS e);exact⟨x,y,h1,dF h2 fun b e=>hx b (oT h2 b e) (by obtain⟨d,hd⟩:=mZ h2 e;exact bK hd hq (by decide))⟩
 case s7=>exact fun e D=>by obtain⟨B,h1,h2,h3⟩:=h.s7 (gS e) (gT D);exact⟨B,h1,h2,by unfold Bk;rw[hx B h3.lt (bK h3 hq (by decide))];exact h3⟩
 case s10=>exact fun e=>by obtain⟨x,y,h1,h2⟩:=h.s10 (gS e);exact⟨x,y,h1,dF h2 fun b e=>hx b (oT h2 b e) (by obtain⟨d,hd⟩:=gP h2 e;exact bK hd hq (by decide))⟩
 case s12=>exact fun _ D=>absurd D (by rw[gH (by omega)];decide)
 case s13=>exact fun _=>⟨q,G,F,x,y,J,I,h3,hn,Y,e7,R,O⟩
 case c11=>exact fun e=>by obtain⟨U,T,S⟩:=h.c11 (gS e);exact⟨a9 U,a9 T,a9 S⟩
 case c13=>exact fun _=>⟨a9 M,a9 H⟩
 all_goals (intro e;replace e:=gS e;first|solve_by_elim|exact a9 (by solve_by_elim))
def Kj (s:SS)(A N:Nat)(a0 a2 a3:Option kR)(c0 c2 c3:Nat)(W0:iC)(L:Array Bool)(a:Act)(W:iC):Prop:=
 L.size=14/\gZ W0.heap.size W0 W/\∃z0 t3 z4 t5 t6 t7 t8 t9 t10 t11 t12 t13 t14 t15 t16 z17 z18 z19 z20 z21 z22 z23 z24 z25 z26 z27 z28 z29 z30 z31 z32 z33 z34 z35 z36:jU,
  a={ tmps:=#[z0,.pointer (some ⟨A,0,none⟩),.pointer (some ⟨A+1,0,none⟩),t3,z4,t5,t6,t7,t8,t9,t10,t11,t12,t13,t14,t15,t16,z17,z18,z19,z20,z21,z22,z23,z24,z25,z26,z27,z28,z29,z30,z31,z32,z33,z34,z35,z36],defers:=[] }/\dO s A N a0 a2 a3 c0 c2 c3 L W t3 t5 t6 t7 t8 t9 t10 t11 t12 t13 t14 t15 t16
theorem g6 {g:iC}{z0 z4 x4 x3 x2 x1 x0 h9 Z Y U T R O M J I H G F D B:jU}(x5:L.size=14)(hb:gZ g.heap.size g W')(S:dO s A N a0 a2 a3 c0 c2 c3 (L.setIfInBounds i true) W' t3 t5 t6 t7 t8 t9 t10 t11 t12 t13 t14 t15 t16):
  Kj s A N a0 a2 a3 c0 c2 c3 g (L.setIfInBounds i true) { tmps:=#[z0,.pointer (some ⟨A,0,none⟩),.pointer (some ⟨A+1,0,none⟩),t3,z4,t5,t6,t7,t8,t9,t10,t11,t12,t13,t14,t15,t16,x4,x3,x2,x1,x0,h9,Z,Y,U,T,R,O,M,J,I,H,G,F,D,B],defers:=[] } W':=
 ⟨by simp[x5],hb,_,_,_,_,_,_,_,_,_,_,_,_,_,_,_,_,_,_,_,_,_,_,_,_,_,_,_,_,_,_,_,_,_,_,_,rfl,S⟩
theorem gF (hl:j<L.size)(h:L.getD j false=true->False):L.getD j true=false:=by
 simp only[fV,Array.getElem?_eq_getElem hl,Option.getD_some]at h ⊢;cases e:L[j]
 ·rfl
 ·exact (h e).elim
theorem kP {W:iC}{N g:Nat}{T:TypeId}(B:Bk W q #[] T)(h:N<=q):W.ownsRow N T g (.slice (some ⟨q,0,none⟩) 0 0) 0 []:=
 ⟨by simp,.inr ⟨q,0,#[],rfl,h,B,Nat.le_refl _,by unfold maxLen;omega,by simp,by simp⟩⟩
theorem zI {s:SS}{sp si sf sd:jU}{w:iC}(h:bY w sp si sf sd s)(t0:Gl s):
  Calls Tryz.prog 76 #[sv s.t.k s.t.n sp si sf sd] w fun e w'=>∃l5 l7 l8 l9,e=.returned (sv s.t.k s.t.n l5 l7 l8 l9)/\lR w' w.heap.size l5 l7 l8 l9 s/\gZ w.heap.size w w':=by
 have HS:=(show Hid (bY w sp si sf sd s) from h);obtain⟨a0,c0,a1,c1,a2,c2,a3,c3,rfl,rfl,rfl,rfl⟩:=h.sl;obtain⟨f1,f2,f3,f4⟩:=t0;have HW:=(show Hid (∀l∈s.K,l.length<=1000) from f2);have bA:Bk ((w.alloc (.cells (sc s.t.k s.t.n (.slice a0 s.t.len c0) (.slice a1 s.K.length c1) (.slice a2 s.f.length c2) (.slice a3 s.d.length c3)) 30)).alloc (.cells #[.int .i64 0,.int .i64 0,.slice none 0 0,.slice none 0 0,.slice none 0 0,.slice none 0 0] 30)) w.heap.size (sc s.t.k s.t.n (.slice a0 s.t.len c0) (.slice a1 s.K.length c1) (.slice a2 s.f.length c2) (.slice a3 s.d.length c3)) 30:=(Bk.new _ _ rfl).alloc _;have bR:Bk ((w.alloc (.cells (sc s.t.k s.t.n (.slice a0 s.t.len c0) (.slice a1 s.K.length c1) (.slice a2 s.f.length c2) (.slice a3 s.d.length c3)) 30)).alloc (.cells #[.int .i64 0,.int .i64 0,.slice none 0 0,.slice none 0 0,.slice none 0 0,.slice none 0 0] 30)) (w.heap.size+1) #[.int .i64 0,.int .i64 0,.slice none 0 0,.slice none 0 0,.slice none 0 0,.slice none 0 0] 30:=Bk.new _ _ (by simp);have o2:gZ w.heap.size w ((w.alloc (.cells (sc s.t.k s.t.n (.slice a0 s.t.len c0) (.slice a1 s.K.length c1) (.slice a2 s.f.length c2) (.slice a3 s.d.length c3)) 30)).alloc (.cells #[.int .i64 0,.int .i64 0,.slice none 0 0,.slice none 0 0,.slice none 0 0,.slice none 0 0] 30)):=aG (aG (fH _ _) _) _;have rN:((w.alloc (.cells (sc s.t.k s.t.n (.slice a0 s.t.len c0) (.slice a1 s.K.length c1) (.slice a2 s.f.length c2) (.slice a3 s.d.length c3)) 30)).alloc (.cells #[.int .i64 0,.int .i64 0,.slice none 0 0,.slice none 0 0,.slice none 0 0,.slice none 0 0] 30)).heap.size=w.heap.size+2:=by simp
 have b5:=h.keep o2;clear h f2;go_enter Tryz.func76,Tryz.ntmps76;go_wp2_with fail;generalize ((w.alloc (.cells (sc s.t.k s.t.n (.slice a0 s.t.len c0) (.slice a1 s.K.length c1) (.slice a2 s.f.length c2) (.slice a3 s.d.length c3)) 30)).alloc (.cells #[.int .i64 0,.int .i64 0,.slice none 0 0,.slice none 0 0,.slice none 0 0,.slice none 0 0] 30))=W0 at*;have HX:Hid (∀V:iC,gZ W0.heap.size W0 V->V.cell? ⟨w.heap.size,0,none⟩=some (.int .i64 s.t.k)/\V.cell? ⟨w.heap.size,1,none⟩=some (.int .i64 s.t.n)/\V.cell? ⟨w.heap.size,2,none⟩=some (.slice a0 s.t.len c0)/\V.cell? ⟨w.heap.size,3,none⟩=some (.slice a1 s.K.length c1)/\V.cell? ⟨w.heap.size,4,none⟩=some (.slice a2 s.f.length c2)/\V.cell? ⟨w.heap.size,5,none⟩=some (.slice a3 s.d.length c3)):=fun V hV=>(bA.keep hV).aY;have o5:Hid (∀V:iC,gZ W0.heap.size W0 V->cZ 0 V s.t (.slice a0 s.t.len c0)):=fun V hV=>(b5.keep hV).kd;have HQ:Hid (∀V:iC,gZ W0.heap.size W0 V->Ts V (.slice a2 s.f.length c2) s.f/\Rs V (.slice a3 s.d.length c3) s.d):=fun V hV=>⟨(b5.keep hV).ts,(b5.keep hV).rs⟩;refine j9 (by kernel_rfl) (Kj s w.heap.size (w.heap.size+2) a0 a2 a3 c0 c2 c3 W0) ?hg ?hs ?h0 ?hstep ?hend
 case hg=>
  intro i o ho;have hi:i<14:=(gY.1 ho).1;obtain rfl|rfl|rfl|rfl|rfl|rfl|rfl|rfl|rfl|rfl|rfl|rfl|rfl|rfl:i=0\/i=1\/i=2\/i=3\/i=4\/i=5\/i=6\/i=7\/i=8\/i=9\/i=10\/i=11\/i=12\/i=13:=by omega
  all_goals cases ho;rfl
 case hs=>intro L a W hI;exact hI.1
 case h0=>
  refine⟨by simp,(fH _ _).drew,_,_,_,_,_,_,_,_,_,_,_,_,_,_,_,_,_,_,_,_,_,_,_,_,_,_,_,_,_,_,_,_,_,_,_,rfl,?_⟩;constructor<;>(intro e;simp at e)
 case hstep=>
  rintro L a W i o ⟨D,B,z0,t3,z4,t5,t6,t7,t8,t9,t10,t11,t12,t13,t14,t15,t16,wH,wD,vP,vI,zW,zF,zD,zB,xE,hY,hX,hW,hU,hT,hS,hQ,hP,hO,hN,hL,rfl,S⟩ hi ho;obtain⟨J,o',n4,F⟩:=mem_ready.1 hi;rw[ho]at n4;cases n4;have mR:i<14:=(gY.1 ho).1;have v8:w.heap.size+2<=W.heap.size:=by have:=B.size;omega
  clear hi;generalize T:(fun a' w'=>Kj s w.heap.size (w.heap.size+2) a0 a2 a3 c0 c2 c3 W0 (L.setIfInBounds i true) a' w')=K;obtain rfl|rfl|rfl|rfl|rfl|rfl|rfl|rfl|rfl|rfl|rfl|rfl|rfl|rfl:i=0\/i=1\/i=2\/i=3\/i=4\/i=5\/i=6\/i=7\/i=8\/i=9\/i=10\/i=11\/i=12\/i=13:=by omega
  ·cases ho;go_simp;subst T;exact g6 D B (S.be rfl)
  ·cases ho;have e0:=S.s0 (F ⟨0,.data⟩ (by simp) rfl);subst e0;obtain⟨x0,x1,x2,x3,x4,x5⟩:=HX.out _ B;go_simp;subst T;exact g6 D B (S.bG rfl)
  ·cases ho;have e1:=S.s1 (F ⟨1,.data⟩ (by simp) rfl);subst e1;go_simp;refine (mN s.t (o5.out _ B)).mono ?_;rintro e W1 ⟨ak,Z,rfl,kp,o1⟩;subst T;refine g6 D (aH B o1) ((S.keep o1).au (fun e=>gN (S.c11 e).1 J) (fun e=>gN (S.c11 (S.c13 e).1).1 J) ⟨ak,Z,rfl,kp.wk fun g hg=>⟨by omega,fun e4 e5=>?_⟩⟩);obtain⟨q,h1,h2,h3⟩:=S.s12 e4 (gF (by omega) fun e=>gN (S.c11 (S.c13 e).1).1 J);rw[h1]at e5;have:=h3.lt;exact IN (by omega) e5
  ·cases ho;go_simp;subst T;exact g6 D (aH B (aG (fH _ _) _)) ((S.keep (aG (fH _ _) _)).ar v8 (Bk.new _ _ rfl))
  ·cases ho;go_simp;subst T;exact g6 D B (S.aq rfl)
  ·cases ho;have e0:=S.s4 (F ⟨4,.data⟩ (by simp) rfl);subst e0;obtain⟨x0,x1,x2,x3,x4,x5⟩:=HX.out _ B;go_simp;subst T;exact g6 D B (S.ai rfl)
  ·cases ho;obtain⟨q,e8,hq,v6⟩:=S.s3 (F ⟨3,.data⟩ (by simp) rfl) J;subst e8;have e5:=S.s5 (F ⟨5,.data⟩ (by simp) rfl);subst e5;refine NS _ rfl _ _ rfl (w.heap.size+2) (.slice (some ⟨q,0,none⟩) 0 0) [] rfl (kP v6 hq) _ s.f rfl (HQ.out _ B).1 (by simp;omega) v8 ?_;intro v5 w5 x7 v4;obtain⟨x,y,rfl⟩:∃a c,v5=.slice a s.f.length c:=qJ (l:=s.f) x7;have z2:aW w5 (w.heap.size+2) (.slice x s.f.length y) s.f:=x7;subst T;exact g6 D (Below.aO B v4 (by omega) (fun z e=>by have:=lK e;omega)) (S.bm D (fun e=>gN (S.c11 e).2.1 J) (fun e=>gN (S.c11 (S.c13 e).1).2.1 J) v6 (fun z I hne=>v4.block z I (fun e=>hne (lK e.symm).symm)) z2)
  ·cases ho;go_simp;subst T;exact g6 D (aH B (aG (fH _ _) _)) ((S.keep (aG (fH _ _) _)).bl v8 (Bk.new _ _ rfl))
  ·cases ho;go_simp;subst T;exact g6 D B (S.bj rfl)
  ·cases ho;have e0:=S.s8 (F ⟨8,.data⟩ (by simp) rfl);subst e0;obtain⟨x0,x1,x2,x3,x4,x5⟩:=HX.out _ B;go_simp;subst T;exact g6 D B (S.cE rfl)
  ·cases ho;obtain⟨q,e8,hq,v6⟩:=S.s7 (F ⟨7,.data⟩ (by simp) rfl) J;subst e8;have e5:=S.s9 (F ⟨9,.data⟩ (by simp) rfl);subst e5;refine NK _ rfl _ _ rfl (w.heap.size+2) (.slice (some ⟨q,0,none⟩) 0 0) [] rfl (kP v6 hq) _ s.d rfl (HQ.out _ B).2 (by simp;omega) v8 ?_;intro v5 w5 x7 v4;obtain⟨x,y,rfl⟩:∃a c,v5=.slice a s.d.length c:=by
    obtain⟨a,c,e,_⟩:=Rs.open (aD.rs x7 (by simp;omega));exact⟨a,c,by simpa using e⟩
   have z2:aD w5 (w.heap.size+2) (.slice x s.d.length y) s.d:=x7;subst T;exact g6 D (Below.aO B v4 (by omega) (fun z e=>by have:=lK e;omega)) (S.bC D (fun e=>gN (S.c11 e).2.2 J) (fun e=>gN (S.c11 (S.c13 e).1).2.2 J) v6 (fun z I hne=>v4.block z I (fun e=>hne (lK e.symm).symm)) z2)
  ·cases ho;have l2:=F ⟨2,.data⟩ (by simp) rfl;have l6:=F ⟨6,.data⟩ (by simp) rfl;have m4:=F ⟨10,.data⟩ (by simp) rfl;obtain⟨ak,Z,e7,-⟩:=S.s2 l2;obtain⟨x,y,z1,-⟩:=S.s6 l6;obtain⟨H,G,y9,-⟩:=S.s10 m4;subst e7 z1 y9;go_simp;subst T;exact g6 D B (S.az ⟨l2,l6,m4⟩ ⟨ak,Z,x,y,H,G,rfl,rfl,rfl,rfl⟩)
  ·cases ho;go_simp;subst T;exact g6 D (aH B (aG (fH _ _) _)) (S.aw (fun e=>gN (S.c13 e).2 J) v8 (Bk.new _ _ rfl) (aG (fH _ _) _) rfl)
  ·cases ho;have v0:=F ⟨12,.data⟩ (by simp) rfl;have m3:=F ⟨11,.data⟩ (by simp) rfl;obtain⟨q,e3,hq,bq⟩:=S.s12 v0 J;obtain⟨ak,Z,x,y,H,G,bF,e7,z1,y9⟩:=S.s11 m3;subst e3 bF e7 z1 y9;have g0:=bq.free 0;have q1:=bq.set 0 (.int .i64 s.t.k);have g1:=q1.free 1;have q2:=q1.set 1 (.int .i64 s.t.n);have g2:=q2.free 2;have q3:=q2.set 2 (.slice ak s.t.len Z);have g3:=q3.free 3;have q4:=q3.set 3 bM;have g4:=q4.free 4;have q5:=q4.set 4 (.slice x s.f.length y);have g5:=q5.free 5;have q6:Bk ((((((W.setCell ⟨q,0,none⟩ (.int .i64 s.t.k)).setCell ⟨q,1,none⟩ (.int .i64 s.t.n)).setCell ⟨q,2,none⟩ (.slice ak s.t.len Z)).setCell ⟨q,3,none⟩ (bM)).setCell ⟨q,4,none⟩ (.slice x s.f.length y)).setCell ⟨q,5,none⟩ (.slice H s.d.length G)) q #[.int .i64 s.t.k,.int .i64 s.t.n,.slice ak s.t.len Z,bM,.slice x s.f.length y,.slice H s.d.length G] 30:=q5.set 5 (.slice H s.d.length G);obtain⟨y0,y1,y2,y3,y4,y5⟩:=bq.aY;have O:∀z,z<W.heap.size->z≠q->((((((W.setCell ⟨q,0,none⟩ (.int .i64 s.t.k)).setCell ⟨q,1,none⟩ (.int .i64 s.t.n)).setCell ⟨q,2,none⟩ (.slice ak s.t.len Z)).setCell ⟨q,3,none⟩ (bM)).setCell ⟨q,4,none⟩ (.slice x s.f.length y)).setCell ⟨q,5,none⟩ (.slice H s.d.length G)).heap[z]?=W.heap[z]?:=fun z _ I=>(((((fD _ _ _ _ I).trans (fD _ _ _ _ I)).trans (fD _ _ _ _ I)).trans (fD _ _ _ _ I)).trans (fD _ _ _ _ I)).trans (fD _ _ _ _ I);have y8:W0.heap.size<=q:=by omega
   go_simp;subst T;exact g6 D ((((((B.setCell y8 _).setCell y8 _).setCell y8 _).setCell y8 _).setCell y8 _).setCell y8 _) (S.bu D m3 v0 rfl hq bq O q6 rfl rfl rfl)
 case hend=>
  rintro L a W ⟨D,B,z0,t3,z4,t5,t6,t7,t8,t9,t10,t11,t12,t13,t14,t15,t16,wH,wD,vP,vI,zW,zF,zD,zB,xE,hY,hX,hW,hU,hT,hS,hQ,hP,hO,hN,hL,rfl,S⟩ hr;have R:∀j,j<14->L.getD j false=true:=by
   refine jI (by simpa using D) ?_ hr;intro i o ho;have hi:i<14:=(gY.1 ho).1;obtain rfl|rfl|rfl|rfl|rfl|rfl|rfl|rfl|rfl|rfl|rfl|rfl|rfl|rfl:i=0\/i=1\/i=2\/i=3\/i=4\/i=5\/i=6\/i=7\/i=8\/i=9\/i=10\/i=11\/i=12\/i=13:=by omega
   all_goals cases ho
   all_goals (first|(simp;done)|(simp[Region.binds];done)|decide)
  obtain⟨q,ak,Z,x,y,H,G,e3,aL,bN,e7,z1,y9⟩:=S.s13 (R 13 (by omega));obtain⟨bP,bO,v9,kp⟩:=S.s2 (R 2 (by omega));obtain⟨x1,y1,z6,f7⟩:=S.s6 (R 6 (by omega));obtain⟨x2,y2,z5,f6⟩:=S.s10 (R 10 (by omega));have v0:=R 12 (by omega);rw[e7]at v9;rw[z1]at z6;rw[y9]at z5;obtain⟨rfl,-,rfl⟩:ak=bP/\True/\Z=bO:=by simp at v9;exact⟨v9.1,trivial,v9.2⟩
  obtain⟨rfl,rfl⟩:x=x1/\y=y1:=by simp at z6;exact z6
  obtain⟨rfl,rfl⟩:H=x2/\G=y2:=by simp at z5;exact z5
  subst e3;have j5:Hid (Ea s w (sc s.t.k s.t.n (.slice a0 s.t.len c0) (.slice a1 s.K.length c1) (.slice a2 s.f.length c2) (.slice a3 s.d.length c3)) q W.heap.size 0 (.slice ak s.t.len Z) (.slice x s.f.length y) (.slice H s.d.length G) s.f s.d W):=
   ⟨Nat.zero_le _,⟨_,[],oN _ _ _ _ _,gC.nil _ _,bN⟩,kp.move fun g hg hl=>⟨⟨hg.1,hl,fun e=>hg.2 v0 (by rw[e])⟩,rfl⟩,f7,f6,bA.keep B,bR.keep B,aL,bN.lt,aH o2 B⟩
  have sI:W.heap.size<=W.heap.size:=Nat.le_refl _;obtain⟨x0,x1,x2,x3,x4,x5⟩:=HX.out _ B;clear R S hr v0 kp f7 f6 bN bA bR b5 v9 z6 z5 e7 z1 y9 D;go_wp2_with fail;clear x0 x1 x2 x3 x4 x5;generalize b6:(jU.slice ak s.t.len Z)=x8 at*;obtain⟨M,hM⟩:∃M,M=W.heap.size:=⟨_,rfl⟩;rw[<- hM]at j5;have nD:w.heap.size+2<=M:=by have:=B.size;omega
  go_loopw [4] (fun i wr=>∃k:Nat,i=.int .i64 k/\Ea s w (sc s.t.k s.t.n (.slice a0 s.t.len c0) (.slice a1 s.K.length c1) (.slice a2 s.f.length c2) (.slice a3 s.d.length c3)) q M k x8 (.slice x s.f.length y) (.slice H s.d.length G) s.f s.d wr/\M<=wr.heap.size) (fun i _=>s.K.length-(intOf i).toNat)
  case atStart=>exact⟨0,rfl,j5.out,by omega⟩
  case round=>
   clear j5 B hM HX o5 HQ;obtain⟨k,rfl,hI,o3⟩:=hrel;obtain⟨sG,⟨lv,vs,n3,g8,bB⟩,n5,a8,b0,bA,bR,r8,wR,B⟩:=hI;have HO:=(show Hid (dN wr M lv vs) from n3);have HE:=(show Hid (gC wr M vs (s.K.take k)) from g8);have j4:=(show Hid (dR (fun g=>w.heap.size+2<=g/\g<M/\g≠q) wr s.t x8) from n5);have HV:Hid (vs.length=k):=by show _=_;rw[g8.1,List.length_take];omega
   clear n3 g8 n5;obtain⟨av,U,Y,bE⟩:∃a n c,lv=.slice a n c:=by
    obtain⟨a,c,e,-⟩:=dN.vs HO.out (by have:=HV.out;omega);exact⟨a,_,c,e⟩
   subst bE;obtain⟨x0,x1,x2,x3,x4,x5⟩:=bA.aY
   by_cases f8:k<s.K.length
   ·obtain⟨l,b1⟩:∃l,s.K[k]?=some l:=⟨_,List.getElem?_eq_getElem f8⟩;obtain⟨a',oM,e',-,-,-,b3⟩:=(HS.out.keep B).ly.open;cases e';obtain⟨g,off,ad,cp,rfl,sH,o4,hR⟩:=b3 k l b1;have ik:((k:Int)<(s.K.length:Int)):=by omega
    have HL:=(show Hid (s.K[k]?=some l) from b1);have sE:l.length<=1000:=HW.out l (List.mem_of_getElem? b1);have HB:=(show Hid (Bk wr q #[.int .i64 s.t.k,.int .i64 s.t.n,x8,.slice av U Y,.slice x s.f.length y,.slice H s.d.length G] 30) from bB);have HA:=(show Hid (Bk wr w.heap.size (sc s.t.k s.t.n (.slice a0 s.t.len c0) (.slice (some ⟨g,off,none⟩) s.K.length c1) (.slice a2 s.f.length c2) (.slice a3 s.d.length c3)) 30) from bA);have HR:=(show Hid (Bk wr (w.heap.size+1) #[.int .i64 0,.int .i64 0,.slice none 0 0,.slice none 0 0,.slice none 0 0,.slice none 0 0] 30) from bR);have HC:Hid (∀V,gZ wr.heap.size wr V->V.cell? ⟨q,3,none⟩=some (.slice av U Y)/\V.cell? ⟨w.heap.size,3,none⟩=some (.slice (some ⟨g,off,none⟩) s.K.length c1)/\V.cell? ⟨g,off+k,none⟩=some (.slice ad l.length cp)):=fun V hV=>⟨(bB.keep hV).aY.2.2.2.1,(bA.keep hV).aY.2.2.2.1,cB hV o4⟩;have hd:gZ wr.heap.size wr wr.drew:=(fH _ _).drew;have o0:gZ wr.heap.size wr (wr.alloc (.cells #[] 55)):=aG (fH _ _) _;have b4:gZ wr.heap.size wr ((wr.alloc (.cells #[] 55)).drew):=o0.drew;have OE:aD ((wr.alloc (.cells #[] 55)).drew) wr.heap.size (.slice (some ⟨wr.heap.size,0,none⟩) 0 0) []:=dW wr rfl;have zE:wr.heap.size<=((wr.alloc (.cells #[] 55)).drew).heap.size:=b4.size;have RE:Rs ((wr.alloc (.cells #[] 55)).drew) (.slice ad l.length cp) l:=hR.keep b4;clear b3 b1 hR bA bB bR x0 x1 x2 x4 x5;go_wp2_with fail;obtain⟨i0,i1,i2⟩:=HC.out _ (fH _ _);obtain⟨j0,j1,j2⟩:=HC.out _ hd;obtain⟨k0,k1,k2⟩:=HC.out _ o0;obtain⟨l0,l1,l2⟩:=HC.out _ b4
    go_region_law (first
     | (refine iU _ rfl _ _ rfl wr.heap.size _ [] rfl OE _ l rfl RE (by simp;omega) zE ?_;intro v7 w7 a4 n6;obtain⟨a7,c7,rfl⟩:∃a c,v7=.slice a l.length c:=(by obtain⟨a,c,e,_⟩:=Rs.open (aD.rs a4 (by simp;omega));exact⟨a,c,by simpa using e⟩);have a6:aD w7 wr.heap.size (.slice a7 l.length c7) l:=a4;have i3:gZ wr.heap.size wr w7:=Below.aO b4 n6 zE (oB OE);have y6:gZ wr.heap.size wr (w7.alloc (.cells #[.slice a7 l.length c7] 28)):=aG i3 _;have O8:dN (w7.alloc (.cells #[.slice a7 l.length c7] 28)) M (.slice av U Y) vs:=bJ HO.out y6;have B8:Bk (w7.alloc (.cells #[.slice a7 l.length c7] 28)) w7.heap.size #[.slice a7 l.length c7] 28:=Bk.new _ _ rfl;have m5:M<=(w7.alloc (.cells #[.slice a7 l.length c7] 28)).heap.size:=Nat.le_trans o3 y6.size;obtain⟨m0,m1,m2⟩:=HC.out _ i3;obtain⟨n0,n1,n2⟩:=HC.out _ y6;have m9:aD (w7.alloc (.cells #[.slice a7 l.length c7] 28)) wr.heap.size (.slice a7 l.length c7) l:=a6.alloc _)
     | (refine JN _ rfl _ _ rfl M (.slice av U Y) vs rfl O8 _ _ _ _ rfl B8 (by have:=HV.out;omega) m5 ?_;intro g9 a5 w9 f5 b2 aE;have b9:=(HB.out.keep y6).aO b2 (fun z e=>by obtain⟨d,aF⟩:=kF O8 e;exact bK (HB.out.keep y6) aF (by decide));obtain⟨r0,r1,r2,r3,r4,r5⟩:=b9.aY;have aT:=b9.free 3))
    all_goals
     have HN:Hid (Ea s w (sc s.t.k s.t.n (.slice a0 s.t.len c0) (.slice (some ⟨g,off,none⟩) s.K.length c1) (.slice a2 s.f.length c2) (.slice a3 s.d.length c3)) q M (k+1) x8 (.slice x s.f.length y) (.slice H s.d.length G) s.f s.d (w9.setCell ⟨q,3,none⟩ (.slice (some ⟨g9,0,none⟩) (vs.length+1) a5))/\M<=(w9.setCell ⟨q,3,none⟩ (.slice (some ⟨g9,0,none⟩) (vs.length+1) a5)).heap.size):=⟨EB HL.out (by omega) HO.out HE.out HB.out j4.out a8 b0 HA.out HR.out r8 wR B o3 y6 m9 f5 b2,by have:=b2.size;simp[iC.setCell];omega⟩;have bV:Hid (k<s.K.length):=f8;clear f5 b2 aE b9 r0 r1 r2 r3 r4 r5 aT a4 a6 n6 i3 y6 O8 B8 m5 m0 m1 m2 n0 n1 n2 m9 i0 i1 i2 j0 j1 j2 k0 k1 k2 l0 l1 l2 f8 o4 x3;generalize w9.setCell ⟨q,3,none⟩ (.slice (some ⟨g9,0,none⟩) (vs.length+1) a5)=wN at*;go_wp2_with fail;go_roundw
     case rel=>exact⟨k+1,by go_num,HN.out⟩
     case measure=>have:=bV.out;simp[intOf];omega
   ·obtain rfl:k=s.K.length:=by omega
    have ik:¬((s.K.length:Int)<(s.K.length:Int)):=by omega
    have z3:=HO.out;have x9:=HE.out;rw[List.take_length]at x9;have g7:=j4.out;obtain⟨kk,kn,kc,l3⟩:∃a n c,x8=.slice a n c:=⟨_,_,_,b6.symm⟩;clear b6 HO HE j4;subst l3;obtain⟨w0,w1,w2,w3,w4,w5⟩:=bB.aY;obtain⟨y0,y1,y2,y3,y4,y5⟩:=bR.aY;have g0:=bR.free 0;have q1:=bR.set 0 (.int .i64 s.t.k);have g1:=q1.free 1;have q2:=q1.set 1 (.int .i64 s.t.n);have g2:=q2.free 2;have q3:=q2.set 2 (.slice kk kn kc);have g3:=q3.free 3;have q4:=q3.set 3 (.slice av U Y);have g4:=q4.free 4;have q5:=q4.set 4 (.slice x s.f.length y);have g5:=q5.free 5;have q6:Bk ((((((wr.setCell ⟨w.heap.size+1,0,none⟩ (.int .i64 s.t.k)).setCell ⟨w.heap.size+1,1,none⟩ (.int .i64 s.t.n)).setCell ⟨w.heap.size+1,2,none⟩ (.slice kk kn kc)).setCell ⟨w.heap.size+1,3,none⟩ (.slice av U Y)).setCell ⟨w.heap.size+1,4,none⟩ (.slice x s.f.length y)).setCell ⟨w.heap.size+1,5,none⟩ (.slice H s.d.length G)) (w.heap.size+1) #[.int .i64 s.t.k,.int .i64 s.t.n,.slice kk kn kc,.slice av U Y,.slice x s.f.length y,.slice H s.d.length G] 30:=q5.set 5 (.slice H s.d.length G);obtain⟨r0,r1,r2,r3,r4,r5⟩:=q6.aY;have O:∀z,z≠w.heap.size+1->((((((wr.setCell ⟨w.heap.size+1,0,none⟩ (.int .i64 s.t.k)).setCell ⟨w.heap.size+1,1,none⟩ (.int .i64 s.t.n)).setCell ⟨w.heap.size+1,2,none⟩ (.slice kk kn kc)).setCell ⟨w.heap.size+1,3,none⟩ (.slice av U Y)).setCell ⟨w.heap.size+1,4,none⟩ (.slice x s.f.length y)).setCell ⟨w.heap.size+1,5,none⟩ (.slice H s.d.length G)).heap[z]?=wr.heap[z]?:=fun z I=>(((((fD _ _ _ _ I).trans (fD _ _ _ _ I)).trans (fD _ _ _ _ I)).trans (fD _ _ _ _ I)).trans (fD _ _ _ _ I)).trans (fD _ _ _ _ I);have HF:Hid (lR ((((((wr.setCell ⟨w.heap.size+1,0,none⟩ (.int .i64 s.t.k)).setCell ⟨w.heap.size+1,1,none⟩ (.int .i64 s.t.n)).setCell ⟨w.heap.size+1,2,none⟩ (.slice kk kn kc)).setCell ⟨w.heap.size+1,3,none⟩ (.slice av U Y)).setCell ⟨w.heap.size+1,4,none⟩ (.slice x s.f.length y)).setCell ⟨w.heap.size+1,5,none⟩ (.slice H s.d.length G)) w.heap.size (.slice kk kn kc) (.slice av U Y) (.slice x s.f.length y) (.slice H s.d.length G) s):=by
     refine⟨g7.move fun z I _=>⟨⟨by omega,fun e=>by have:=oB z3 z e;omega⟩,O z (by omega)⟩,⟨vs,bQ (dF z3 fun z e=>O z (by have:=oB z3 z e;omega)) (by omega),?_⟩,bQ (dF a8 fun z e=>O z (by have:=oB a8 z e;omega)) (by omega),bQ (dF b0 fun z e=>O z (by have:=oB b0 z e;omega)) (by omega)⟩;refine gC.less ⟨x9.1,fun i u l h1 h2=>?_,x9.2.2⟩ (show w.heap.size<=M by omega);have ho:=x9.2.1 i u l h1 h2;exact dF ho fun z e=>O z (by have:=oB ho z e;omega)
    have bX:Hid (gZ w.heap.size w ((((((wr.setCell ⟨w.heap.size+1,0,none⟩ (.int .i64 s.t.k)).setCell ⟨w.heap.size+1,1,none⟩ (.int .i64 s.t.n)).setCell ⟨w.heap.size+1,2,none⟩ (.slice kk kn kc)).setCell ⟨w.heap.size+1,3,none⟩ (.slice av U Y)).setCell ⟨w.heap.size+1,4,none⟩ (.slice x s.f.length y)).setCell ⟨w.heap.size+1,5,none⟩ (.slice H s.d.length G))):=(((((B.setCell (by simp) _).setCell (by simp) _).setCell (by simp) _).setCell (by simp) _).setCell (by simp) _).setCell (by simp) _;clear z3 x9 a8 b0 g7 bB bR B O q1 q2 q3 q4 q5 q6;go_wp2_with fail;refine bodyPost_ret (v:=sv s.t.k s.t.n (.slice kk kn kc) (.slice av U Y) (.slice x s.f.length y) (.slice H s.d.length G)) (by simp[results,Tryz.results76,go_sem,r0,r1,r2,r3,r4,r5];try rfl) rfl ?_;exact⟨_,_,_,_,rfl,HF.out,bX.out⟩
end Go.Proofs.YtbdpcngcbnoioaaGreatDoor
