import Derived.Test.YtbdpcngcbnoioaaGreatDoorGqb
import Derived.Test.YtbdpcngcbnoioaaGreatDoorGd4
set_option maxRecDepth 100000
set_option maxHeartbeats 32000000
namespace Go.Proofs.YtbdpcngcbnoioaaGreatDoor
open Go.RowKit Go.Shelf
open Go.RowKit.Below renaming heap_setCell->fM,refl->fQ
open Go.RowKit renaming Below->gD
open _root_.Array renaming getD_eq_getD_getElem?->gM,getElem?_eq_some_iff->gQ
open Go renaming World->gX,Value->iM,Addr->iP
theorem getD_upV{L:Array Bool}{i j:Nat}(h:L.getD j false=true):(L.setIfInBounds i true).getD j false=true:=by
 simp only[Array.getD_eq_getD_getElem?,Array.getElem?_setIfInBounds]at h ⊢
 by_cases e:i=j
 ·subst e
  by_cases hl:i<L.size
  ·simp[hl]
  ·simp[Array.getElem?_eq_none (show L.size<=i by omega)]at h
 ·rw[if_neg e];exact h
variable {q y:Nat}{u:iM}{x:Option iP}
attribute [local go_sem ↓] Go.wp_at_zero Go.wp_at_succ
section
variable {o:Oper}{a:Act}{Kk:Act->gX->Prop}{Q:Exit->Act->gX->Prop}
theorem Qu (w:gX)(D:o.guard=none)(s x:Operand)(ho:o.op=.call { callee:= .builtin .append,args:=#[s,x],argTypes:=#[27,27] })
  (g:Nat) (v:iM) (l:LI) (hs:a.eval s=v) (H:bW w g v l) (G:iM) (m:LI) (hx:a.eval x=G) (I:Ts w G m) (hl:l.length+m.length<=2000000) (B:g<=w.heap.size)
  (h:∀v' w',bW w' g v' (l++m)->w.grownBy w' v.ownBlock->Kk (a.put o.dst v') w'):Oper.wp Tryz.prog o a w Kk Q:=by
 have:=QL (ops:=#[]) (E:=False) (Q:=Q) w D s x ho g v l hs H G m hx I hl B h
 rwa [if_pos (by simp[Region.wanted,D])]at this
theorem Qt (w:gX)(D:o.guard=none)(s x:Operand)(ho:o.op=.call { callee:= .builtin .append,args:=#[s,x],argTypes:=#[28,28] })
  (g:Nat) (v:iM) (l:List Rw) (hs:a.eval s=v) (H:aC w g v l) (G:iM) (m:List Rw) (hx:a.eval x=G) (I:Rs w G m) (hl:l.length+m.length<=2000000) (B:g<=w.heap.size)
  (h:∀v' w',aC w' g v' (l++m)->w.grownBy w' v.ownBlock->Kk (a.put o.dst v') w'):Oper.wp Tryz.prog o a w Kk Q:=by
 have:=rH (ops:=#[]) (E:=False) (Q:=Q) w D s x ho g v l hs H G m hx I hl B h
 rwa [if_pos (by simp[Region.wanted,D])]at this
end
theorem fJ.dz {p:Nat->Prop}{q:Nat}{w w':gX}{G:TypeId}(D:Bk w q #[] G)(hx:∀x,x<w.heap.size->x≠q->w'.heap[x]?=w.heap[x]?):∀{t:PT}{s:iM},fJ p w t s->fJ p w' t s
 | .n0 _ _,_,h=>h
 | .n1 _ _ _,_,⟨g,c,sx,e,hp,h1,h2,h3,h4⟩=>
  have B:=hx g (lC h1) (no_cell D h1)
  ⟨g,c,sx,e,hp,eX B h1,eX B h2,eX B h3,fJ.dz D hx h4⟩
 | .n2 _ _ _ _,_,⟨g,c,sx,sy,e,hp,h1,h2,h3,h4,h5,h6,h7,h8⟩=>
  have B:=hx g (lC h1) (no_cell D h1)
  ⟨g,c,sx,sy,e,hp,eX B h1,eX B h2,eX B h3,eX B h4,eX B h5,eX B h6,fJ.dz D hx h7,fJ.dz D hx h8⟩
where
 no_cell {w:gX} {g q i:Nat} {v:iM} {G:TypeId} (D:Bk w q #[] G) (h:w.cell? ⟨g,i,none⟩=some v):g≠q:=fun e=>by
  subst e;unfold Bk at D;simp[gX.cell?,D]at h
theorem fJ.wk {p q:Nat->Prop}{w:gX}{t:PT}{s:iM}(h:fJ p w t s)(H:∀g,p g->q g):fJ q w t s:=h.move fun g hp _=>⟨H g hp,rfl⟩
structure eD (s:SS)(A N:Nat)(a0 a2 a3:Option iP)(c0 c2 c3:Nat)(L:Array Bool)(W:gX)(t3 t5 t6 t7 t8 t9 t10 t11 t12 t13 t14 t15 t16:iM):Prop where
 s0:L.getD 0 false=true->t5=.pointer (some ⟨A,0,none⟩)
 s1:L.getD 1 false=true->t6=pl s.t.k s.t.n (.slice a0 s.t.len c0)
 s2:L.getD 2 false=true->∃ak ck,t7=pl s.t.k s.t.n (.slice ak s.t.len ck)/\fJ (fun g=>N<=g/\(L.getD 12 false=true->t3≠ .pointer (some ⟨g,0,none⟩))) W s.t (.slice ak s.t.len ck)
 s3:L.getD 3 false=true->L.getD 6 true=false->∃q,t8=.slice (some ⟨q,0,none⟩) 0 0/\N<=q/\Bk W q #[] 32
 s4:L.getD 4 false=true->t9=.pointer (some ⟨A,4,none⟩)
 s5:L.getD 5 false=true->t10=.slice a2 s.f.length c2
 s6:L.getD 6 false=true->∃a c,t11=.slice a s.f.length c/\bW W N (.slice a s.f.length c) s.f
 s7:L.getD 7 false=true->L.getD 10 true=false->∃q,t12=.slice (some ⟨q,0,none⟩) 0 0/\N<=q/\Bk W q #[] 55
 s8:L.getD 8 false=true->t13=.pointer (some ⟨A,5,none⟩)
 s9:L.getD 9 false=true->t14=.slice a3 s.d.length c3
 s10:L.getD 10 false=true->∃a c,t15=.slice a s.d.length c/\aC W N (.slice a s.d.length c) s.d
 s11:L.getD 11 false=true->∃ak ck a c a' c',t16=sv s.t.k s.t.n (.slice ak s.t.len ck) dM (.slice a s.f.length c) (.slice a' s.d.length c')/\t7=pl s.t.k s.t.n (.slice ak s.t.len ck)/\t11=.slice a s.f.length c/\t15=.slice a' s.d.length c'
 s12:L.getD 12 false=true->L.getD 13 true=false->∃q,t3=.pointer (some ⟨q,0,none⟩)/\N<=q/\Bk W q #[.int .i64 0,.int .i64 0,.slice none 0 0,.slice none 0 0,.slice none 0 0,.slice none 0 0] 30
 s13:L.getD 13 false=true->∃q ak ck a c a' c',t3=.pointer (some ⟨q,0,none⟩)/\N<=q/\Bk W q #[.int .i64 s.t.k,.int .i64 s.t.n,.slice ak s.t.len ck,dM,.slice a s.f.length c,.slice a' s.d.length c'] 30/\t7=pl s.t.k s.t.n (.slice ak s.t.len ck)/\t11=.slice a s.f.length c/\t15=.slice a' s.d.length c'
 c11:L.getD 11 false=true->L.getD 2 false=true/\L.getD 6 false=true/\L.getD 10 false=true
 c13:L.getD 13 false=true->L.getD 11 false=true/\L.getD 12 false=true
variable {s:SS}{A N:Nat}{a0 a2 a3:Option iP}{c0 c2 c3:Nat}{L:Array Bool}{W W':gX}{t3 t5 t6 t7 t8 t9 t10 t11 t12 t13 t14 t15 t16:iM}
theorem eD.keep (h:eD s A N a0 a2 a3 c0 c2 c3 L W t3 t5 t6 t7 t8 t9 t10 t11 t12 t13 t14 t15 t16)(g:gD W.heap.size W W'):eD s A N a0 a2 a3 c0 c2 c3 L W' t3 t5 t6 t7 t8 t9 t10 t11 t12 t13 t14 t15 t16 where
 s0:=h.s0
 s1:=h.s1
 s2:=fun e=>by obtain⟨G,D,h1,h2⟩:=h.s2 e;exact⟨G,D,h1,h2.keep g⟩
 s3:=fun e B=>by obtain⟨q,h1,h2,h3⟩:=h.s3 e B;exact⟨q,h1,h2,h3.keep g⟩
 s4:=h.s4
 s5:=h.s5
 s6:=fun e=>by obtain⟨x,y,h1,h2⟩:=h.s6 e;exact⟨x,y,h1,cC h2 g⟩
 s7:=fun e B=>by obtain⟨q,h1,h2,h3⟩:=h.s7 e B;exact⟨q,h1,h2,h3.keep g⟩
 s8:=h.s8
 s9:=h.s9
 s10:=fun e=>by obtain⟨x,y,h1,h2⟩:=h.s10 e;exact⟨x,y,h1,cC h2 g⟩
 s11:=h.s11
 s12:=fun e B=>by obtain⟨q,h1,h2,h3⟩:=h.s12 e B;exact⟨q,h1,h2,h3.keep g⟩
 s13:=fun e=>by obtain⟨q,G,D,x,y,I,H,h1,h2,h3,h4⟩:=h.s13 e;exact⟨q,G,D,x,y,I,H,h1,h2,h3.keep g,h4⟩
 c11:=h.c11
 c13:=h.c13
theorem gN {L:Array Bool}{j:Nat}(h:L.getD j false=true)(g:L.getD j true=false):False:=by
 simp only[gM]at h g;cases e:L[j]?<;>simp[e]at h g;rw[h]at g;cases g
theorem LA {g:Nat}(h:q≠g)(e:iM.pointer (some ⟨q,0,none⟩)=.pointer (some ⟨g,0,none⟩)):False:=h (congrArg iP.block (Option.some.inj (iM.pointer.inj e)))
theorem nO {z:Nat}(e:(iM.slice (some ⟨q,0,none⟩) 0 0).ownBlock=some z):q=z:=by simpa[iM.ownBlock]using e
theorem gH {L:Array Bool}{i:Nat}{b:Bool}(h:i<L.size):(L.setIfInBounds i true).getD i b=true:=by
 simp[gM,h]
theorem eD.aw (h:eD s A N a0 a2 a3 c0 c2 c3 L W t3 t5 t6 t7 t8 t9 t10 t11 t12 t13 t14 t15 t16)(I:u=.pointer (some ⟨A,0,none⟩)):eD s A N a0 a2 a3 c0 c2 c3 (L.setIfInBounds 0 true) W t3 u t6 t7 t8 t9 t10 t11 t12 t13 t14 t15 t16:=by
 have J:=h;cases J;constructor
 case s0=>exact fun _=>I
 case s2=>exact fun e=>by obtain⟨R,O,h1,h2⟩:=h.s2 (gS e);exact⟨R,O,h1,h2.wk fun g hg=>⟨hg.1,fun M=>hg.2 (gS M)⟩⟩
 case c11=>exact fun e=>by obtain⟨D,B,H⟩:=h.c11 (gS e);exact⟨getD_upV D,getD_upV B,getD_upV H⟩
 case c13=>exact fun e=>by obtain⟨D,B⟩:=h.c13 (gS e);exact⟨getD_upV D,getD_upV B⟩
 all_goals (intro e;replace e:=gS e;first|solve_by_elim|exact getD_upV (by solve_by_elim)|(intro G;replace G:=gT G;solve_by_elim))
theorem eD.au (h:eD s A N a0 a2 a3 c0 c2 c3 L W t3 t5 t6 t7 t8 t9 t10 t11 t12 t13 t14 t15 t16)(I:u=pl s.t.k s.t.n (.slice a0 s.t.len c0)):eD s A N a0 a2 a3 c0 c2 c3 (L.setIfInBounds 1 true) W t3 t5 u t7 t8 t9 t10 t11 t12 t13 t14 t15 t16:=by
 have J:=h;cases J;constructor
 case s1=>exact fun _=>I
 case s2=>exact fun e=>by obtain⟨R,O,h1,h2⟩:=h.s2 (gS e);exact⟨R,O,h1,h2.wk fun g hg=>⟨hg.1,fun M=>hg.2 (gS M)⟩⟩
 case c11=>exact fun e=>by obtain⟨D,B,H⟩:=h.c11 (gS e);exact⟨getD_upV D,getD_upV B,getD_upV H⟩
 case c13=>exact fun e=>by obtain⟨D,B⟩:=h.c13 (gS e);exact⟨getD_upV D,getD_upV B⟩
 all_goals (intro e;replace e:=gS e;first|solve_by_elim|exact getD_upV (by solve_by_elim)|(intro G;replace G:=gT G;solve_by_elim))
theorem eD.be (h:eD s A N a0 a2 a3 c0 c2 c3 L W t3 t5 t6 t7 t8 t9 t10 t11 t12 t13 t14 t15 t16)(I:u=.pointer (some ⟨A,4,none⟩)):eD s A N a0 a2 a3 c0 c2 c3 (L.setIfInBounds 4 true) W t3 t5 t6 t7 t8 u t10 t11 t12 t13 t14 t15 t16:=by
 have J:=h;cases J;constructor
 case s2=>exact fun e=>by obtain⟨R,O,h1,h2⟩:=h.s2 (gS e);exact⟨R,O,h1,h2.wk fun g hg=>⟨hg.1,fun M=>hg.2 (gS M)⟩⟩
 case s4=>exact fun _=>I
 case c11=>exact fun e=>by obtain⟨D,B,H⟩:=h.c11 (gS e);exact⟨getD_upV D,getD_upV B,getD_upV H⟩
 case c13=>exact fun e=>by obtain⟨D,B⟩:=h.c13 (gS e);exact⟨getD_upV D,getD_upV B⟩
 all_goals (intro e;replace e:=gS e;first|solve_by_elim|exact getD_upV (by solve_by_elim)|(intro G;replace G:=gT G;solve_by_elim))
theorem eD.cb (h:eD s A N a0 a2 a3 c0 c2 c3 L W t3 t5 t6 t7 t8 t9 t10 t11 t12 t13 t14 t15 t16)(I:u=.slice a2 s.f.length c2):eD s A N a0 a2 a3 c0 c2 c3 (L.setIfInBounds 5 true) W t3 t5 t6 t7 t8 t9 u t11 t12 t13 t14 t15 t16:=by
 have J:=h;cases J;constructor
 case s2=>exact fun e=>by obtain⟨R,O,h1,h2⟩:=h.s2 (gS e);exact⟨R,O,h1,h2.wk fun g hg=>⟨hg.1,fun M=>hg.2 (gS M)⟩⟩
 case s5=>exact fun _=>I
 case c11=>exact fun e=>by obtain⟨D,B,H⟩:=h.c11 (gS e);exact⟨getD_upV D,getD_upV B,getD_upV H⟩
 case c13=>exact fun e=>by obtain⟨D,B⟩:=h.c13 (gS e);exact⟨getD_upV D,getD_upV B⟩
 all_goals (intro e;replace e:=gS e;first|solve_by_elim|exact getD_upV (by solve_by_elim)|(intro G;replace G:=gT G;solve_by_elim))
theorem eD.cN (h:eD s A N a0 a2 a3 c0 c2 c3 L W t3 t5 t6 t7 t8 t9 t10 t11 t12 t13 t14 t15 t16)(I:u=.pointer (some ⟨A,5,none⟩)):eD s A N a0 a2 a3 c0 c2 c3 (L.setIfInBounds 8 true) W t3 t5 t6 t7 t8 t9 t10 t11 t12 u t14 t15 t16:=by
 have J:=h;cases J;constructor
 case s2=>exact fun e=>by obtain⟨R,O,h1,h2⟩:=h.s2 (gS e);exact⟨R,O,h1,h2.wk fun g hg=>⟨hg.1,fun M=>hg.2 (gS M)⟩⟩
 case s8=>exact fun _=>I
 case c11=>exact fun e=>by obtain⟨D,B,H⟩:=h.c11 (gS e);exact⟨getD_upV D,getD_upV B,getD_upV H⟩
 case c13=>exact fun e=>by obtain⟨D,B⟩:=h.c13 (gS e);exact⟨getD_upV D,getD_upV B⟩
 all_goals (intro e;replace e:=gS e;first|solve_by_elim|exact getD_upV (by solve_by_elim)|(intro G;replace G:=gT G;solve_by_elim))
theorem eD.cg (h:eD s A N a0 a2 a3 c0 c2 c3 L W t3 t5 t6 t7 t8 t9 t10 t11 t12 t13 t14 t15 t16)(I:u=.slice a3 s.d.length c3):eD s A N a0 a2 a3 c0 c2 c3 (L.setIfInBounds 9 true) W t3 t5 t6 t7 t8 t9 t10 t11 t12 t13 u t15 t16:=by
 have J:=h;cases J;constructor
 case s2=>exact fun e=>by obtain⟨R,O,h1,h2⟩:=h.s2 (gS e);exact⟨R,O,h1,h2.wk fun g hg=>⟨hg.1,fun M=>hg.2 (gS M)⟩⟩
 case s9=>exact fun _=>I
 case c11=>exact fun e=>by obtain⟨D,B,H⟩:=h.c11 (gS e);exact⟨getD_upV D,getD_upV B,getD_upV H⟩
 case c13=>exact fun e=>by obtain⟨D,B⟩:=h.c13 (gS e);exact⟨getD_upV D,getD_upV B⟩
 all_goals (intro e;replace e:=gS e;first|solve_by_elim|exact getD_upV (by solve_by_elim)|(intro G;replace G:=gT G;solve_by_elim))
theorem eD.ar (R:L.getD 11 false=true->False)(I:L.getD 13 false=true->False)(h:eD s A N a0 a2 a3 c0 c2 c3 L W t3 t5 t6 t7 t8 t9 t10 t11 t12 t13 t14 t15 t16)(O:∃D B,u=pl s.t.k s.t.n (.slice D s.t.len B)/\fJ (fun g=>N<=g/\(L.getD 12 false=true->t3≠ .pointer (some ⟨g,0,none⟩))) W s.t (.slice D s.t.len B)):eD s A N a0 a2 a3 c0 c2 c3 (L.setIfInBounds 2 true) W t3 t5 t6 u t8 t9 t10 t11 t12 t13 t14 t15 t16:=by
 have S:=h;cases S;constructor
 case s2=>exact fun _=>by obtain⟨D,B,h1,h2⟩:=O;exact⟨D,B,h1,h2.wk fun g hg=>⟨hg.1,fun T=>hg.2 (gS T)⟩⟩
 case s11=>exact fun e=>(R (gS e)).elim
 case s13=>exact fun e=>(I (gS e)).elim
 case c11=>exact fun e=>by obtain⟨H,G,M⟩:=h.c11 (gS e);exact⟨getD_upV H,getD_upV G,getD_upV M⟩
 case c13=>exact fun e=>by obtain⟨H,G⟩:=h.c13 (gS e);exact⟨getD_upV H,getD_upV G⟩
 all_goals (intro e;replace e:=gS e;first|solve_by_elim|exact getD_upV (by solve_by_elim)|(intro J;replace J:=gT J;solve_by_elim))
theorem eD.aq (h:eD s A N a0 a2 a3 c0 c2 c3 L W t3 t5 t6 t7 t8 t9 t10 t11 t12 t13 t14 t15 t16)(hq:N<=q)(I:Bk W q #[] 32):eD s A N a0 a2 a3 c0 c2 c3 (L.setIfInBounds 3 true) W t3 t5 t6 t7 (.slice (some ⟨q,0,none⟩) 0 0) t9 t10 t11 t12 t13 t14 t15 t16:=by
 have J:=h;cases J;constructor
 case s2=>exact fun e=>by obtain⟨R,O,h1,h2⟩:=h.s2 (gS e);exact⟨R,O,h1,h2.wk fun g hg=>⟨hg.1,fun M=>hg.2 (gS M)⟩⟩
 case s3=>exact fun _ _=>⟨q,rfl,hq,I⟩
 case c11=>exact fun e=>by obtain⟨D,B,H⟩:=h.c11 (gS e);exact⟨getD_upV D,getD_upV B,getD_upV H⟩
 case c13=>exact fun e=>by obtain⟨D,B⟩:=h.c13 (gS e);exact⟨getD_upV D,getD_upV B⟩
 all_goals (intro e;replace e:=gS e;first|solve_by_elim|exact getD_upV (by solve_by_elim)|(intro G;replace G:=gT G;solve_by_elim))
theorem eD.cZ (h:eD s A N a0 a2 a3 c0 c2 c3 L W t3 t5 t6 t7 t8 t9 t10 t11 t12 t13 t14 t15 t16)(hq:N<=q)(I:Bk W q #[] 55):eD s A N a0 a2 a3 c0 c2 c3 (L.setIfInBounds 7 true) W t3 t5 t6 t7 t8 t9 t10 t11 (.slice (some ⟨q,0,none⟩) 0 0) t13 t14 t15 t16:=by
 have J:=h;cases J;constructor
 case s2=>exact fun e=>by obtain⟨R,O,h1,h2⟩:=h.s2 (gS e);exact⟨R,O,h1,h2.wk fun g hg=>⟨hg.1,fun M=>hg.2 (gS M)⟩⟩
 case s7=>exact fun _ _=>⟨q,rfl,hq,I⟩
 case c11=>exact fun e=>by obtain⟨D,B,H⟩:=h.c11 (gS e);exact⟨getD_upV D,getD_upV B,getD_upV H⟩
 case c13=>exact fun e=>by obtain⟨D,B⟩:=h.c13 (gS e);exact⟨getD_upV D,getD_upV B⟩
 all_goals (intro e;replace e:=gS e;first|solve_by_elim|exact getD_upV (by solve_by_elim)|(intro G;replace G:=gT G;solve_by_elim))
theorem eD.ca (Y:L.size=14)(O:L.getD 11 false=true->False)(I:L.getD 13 false=true->False)(h:eD s A N a0 a2 a3 c0 c2 c3 L W t3 t5 t6 t7 t8 t9 t10 t11 t12 t13 t14 t15 t16)(hq:Bk W q #[] 32)(hx:∀x,x<W.heap.size->x≠q->W'.heap[x]?=W.heap[x]?)(M:bW W' N (.slice x s.f.length y) s.f):eD s A N a0 a2 a3 c0 c2 c3 (L.setIfInBounds 6 true) W' t3 t5 t6 t7 t8 t9 t10 (.slice x s.f.length y) t12 t13 t14 t15 t16:=by
 have R:=h;cases R;constructor
 case s2=>exact fun e=>by obtain⟨U,T,h1,h2⟩:=h.s2 (gS e);exact⟨U,T,h1,(h2.dz hq hx).wk fun g hg=>⟨hg.1,fun S=>hg.2 (gS S)⟩⟩
 case s3=>exact fun _ D=>absurd D (by rw[gH (by omega)];decide)
 case s6=>exact fun _=>⟨x,y,rfl,M⟩
 case s7=>exact fun e D=>by obtain⟨B,h1,h2,h3⟩:=h.s7 (gS e) (gT D);exact⟨B,h1,h2,by unfold Bk;rw[hx B h3.lt (bK h3 hq (by decide))];exact h3⟩
 case s10=>exact fun e=>by obtain⟨x,y,h1,h2⟩:=h.s10 (gS e);exact⟨x,y,h1,fB h2 fun b e=>hx b (oT h2 b e) (by obtain⟨d,hd⟩:=iQ h2 e;exact bK hd hq (by decide))⟩
 case s11=>exact fun e=>(O (gS e)).elim
 case s12=>exact fun e D=>by obtain⟨B,h1,h2,h3⟩:=h.s12 (gS e) (gT D);exact⟨B,h1,h2,by unfold Bk;rw[hx B h3.lt (bK h3 hq (by decide))];exact h3⟩
 case s13=>exact fun e=>(I (gS e)).elim
 case c11=>exact fun e=>by obtain⟨H,G,J⟩:=h.c11 (gS e);exact⟨getD_upV H,getD_upV G,getD_upV J⟩
 case c13=>exact fun e=>by obtain⟨H,G⟩:=h.c13 (gS e);exact⟨getD_upV H,getD_upV G⟩
 all_goals (intro e;replace e:=gS e;first|solve_by_elim|exact getD_upV (by solve_by_elim))
theorem eD.bQ (Y:L.size=14)(O:L.getD 11 false=true->False)(I:L.getD 13 false=true->False)(h:eD s A N a0 a2 a3 c0 c2 c3 L W t3 t5 t6 t7 t8 t9 t10 t11 t12 t13 t14 t15 t16)(hq:Bk W q #[] 55)(hx:∀x,x<W.heap.size->x≠q->W'.heap[x]?=W.heap[x]?)(M:aC W' N (.slice x s.d.length y) s.d):eD s A N a0 a2 a3 c0 c2 c3 (L.setIfInBounds 10 true) W' t3 t5 t6 t7 t8 t9 t10 t11 t12 t13 t14 (.slice x s.d.length y) t16:=by
 have R:=h;cases R;constructor
 case s2=>exact fun e=>by obtain⟨U,T,h1,h2⟩:=h.s2 (gS e);exact⟨U,T,h1,(h2.dz hq hx).wk fun g hg=>⟨hg.1,fun S=>hg.2 (gS S)⟩⟩
 case s3=>exact fun e D=>by obtain⟨B,h1,h2,h3⟩:=h.s3 (gS e) (gT D);exact⟨B,h1,h2,by unfold Bk;rw[hx B h3.lt (bK h3 hq (by decide))];exact h3⟩
 case s6=>exact fun e=>by obtain⟨x,y,h1,h2⟩:=h.s6 (gS e);exact⟨x,y,h1,fB h2 fun b e=>hx b (oT h2 b e) (by obtain⟨d,hd⟩:=n9 h2 e;exact bK hd hq (by decide))⟩
 case s7=>exact fun _ D=>absurd D (by rw[gH (by omega)];decide)
 case s10=>exact fun _=>⟨x,y,rfl,M⟩
 case s11=>exact fun e=>(O (gS e)).elim
 case s12=>exact fun e D=>by obtain⟨B,h1,h2,h3⟩:=h.s12 (gS e) (gT D);exact⟨B,h1,h2,by unfold Bk;rw[hx B h3.lt (bK h3 hq (by decide))];exact h3⟩
 case s13=>exact fun e=>(I (gS e)).elim
 case c11=>exact fun e=>by obtain⟨H,G,J⟩:=h.c11 (gS e);exact⟨getD_upV H,getD_upV G,getD_upV J⟩
 case c13=>exact fun e=>by obtain⟨H,G⟩:=h.c13 (gS e);exact⟨getD_upV H,getD_upV G⟩
 all_goals (intro e;replace e:=gS e;first|solve_by_elim|exact getD_upV (by solve_by_elim))
theorem eD.bL (B:L.getD 2 false=true/\L.getD 6 false=true/\L.getD 10 false=true)(h:eD s A N a0 a2 a3 c0 c2 c3 L W t3 t5 t6 t7 t8 t9 t10 t11 t12 t13 t14 t15 t16)(O:∃G D a c a' I,u=sv s.t.k s.t.n (.slice G s.t.len D) dM (.slice a s.f.length c) (.slice a' s.d.length I)/\t7=pl s.t.k s.t.n (.slice G s.t.len D)/\t11=.slice a s.f.length c/\t15=.slice a' s.d.length I):eD s A N a0 a2 a3 c0 c2 c3 (L.setIfInBounds 11 true) W t3 t5 t6 t7 t8 t9 t10 t11 t12 t13 t14 t15 u:=by
 have R:=h;cases R;constructor
 case s2=>exact fun e=>by obtain⟨G,D,h1,h2⟩:=h.s2 (gS e);exact⟨G,D,h1,h2.wk fun g hg=>⟨hg.1,fun S=>hg.2 (gS S)⟩⟩
 case s11=>exact fun _=>O
 case c11=>exact fun _=>⟨getD_upV B.1,getD_upV B.2.1,getD_upV B.2.2⟩
 case c13=>exact fun e=>by obtain⟨M,J⟩:=h.c13 (gS e);exact⟨getD_upV M,getD_upV J⟩
 all_goals (intro e;replace e:=gS e;first|solve_by_elim|exact getD_upV (by solve_by_elim)|(intro H;replace H:=gT H;solve_by_elim))
theorem eD.az (I:L.getD 13 false=true->False)(h:eD s A N a0 a2 a3 c0 c2 c3 L W t3 t5 t6 t7 t8 t9 t10 t11 t12 t13 t14 t15 t16)(hn:N<=q)(hq:Bk W' q #[.int .i64 0,.int .i64 0,.slice none 0 0,.slice none 0 0,.slice none 0 0,.slice none 0 0] 30)(B:gD W.heap.size W W')(S:q=W.heap.size):eD s A N a0 a2 a3 c0 c2 c3 (L.setIfInBounds 12 true) W' (.pointer (some ⟨q,0,none⟩)) t5 t6 t7 t8 t9 t10 t11 t12 t13 t14 t15 t16 where
 s0:=fun e=>(h.keep B).s0 (gS e)
 s1:=fun e=>(h.keep B).s1 (gS e)
 s2:=fun e=>by obtain⟨R,O,h1,h2⟩:=h.s2 (gS e);exact⟨R,O,h1,h2.move fun g hg hl=>⟨⟨hg.1,fun _ M=>LA (by omega) M⟩,B.block g hl⟩⟩
 s3:=fun e H=>(h.keep B).s3 (gS e) (gT H)
 s4:=fun e=>(h.keep B).s4 (gS e)
 s5:=fun e=>(h.keep B).s5 (gS e)
 s6:=fun e=>(h.keep B).s6 (gS e)
 s7:=fun e H=>(h.keep B).s7 (gS e) (gT H)
 s8:=fun e=>(h.keep B).s8 (gS e)
 s9:=fun e=>(h.keep B).s9 (gS e)
 s10:=fun e=>(h.keep B).s10 (gS e)
 s11:=fun e=>(h.keep B).s11 (gS e)
 s12:=fun _ _=>⟨q,rfl,hn,hq⟩
 s13:=fun e=>(I (gS e)).elim
 c11:=fun e=>by obtain⟨G,D,J⟩:=h.c11 (gS e);exact⟨getD_upV G,getD_upV D,getD_upV J⟩
 c13:=fun e=>by obtain⟨G,D⟩:=h.c13 (gS e);exact⟨getD_upV G,getD_upV D⟩
theorem eD.bu {G J:Nat}{H M:Option iP}(x6:L.size=14)(O:L.getD 11 false=true)(I:L.getD 12 false=true)(h:eD s A N a0 a2 a3 c0 c2 c3 L W t3 t5 t6 t7 t8 t9 t10 t11 t12 t13 t14 t15 t16)(h3:t3=.pointer (some ⟨q,0,none⟩))(hn:N<=q)(hq:Bk W q #[.int .i64 0,.int .i64 0,.slice none 0 0,.slice none 0 0,.slice none 0 0,.slice none 0 0] 30)(hx:∀x,x<W.heap.size->x≠q->W'.heap[x]?=W.heap[x]?)(Z:Bk W' q #[.int .i64 s.t.k,.int .i64 s.t.n,.slice H s.t.len G,dM,.slice x s.f.length y,.slice M s.d.length J] 30)(e7:t7=pl s.t.k s.t.n (.slice H s.t.len G))(S:t11=.slice x s.f.length y)(R:t15=.slice M s.d.length J):eD s A N a0 a2 a3 c0 c2 c3 (L.setIfInBounds 13 true) W' t3 t5 t6 t7 t8 t9 t10 t11 t12 t13 t14 t15 t16:=by
 have h':=h;cases h';constructor
 case s2=>exact fun e=>by obtain⟨H,G,h1,h2⟩:=h.s2 (gS e);exact⟨H,G,h1,h2.move fun g hg hl=>⟨⟨hg.1,fun e3=>hg.2 (gS e3)⟩,hx g hl fun e4=>hg.2 I (by rw[h3,e4])⟩⟩
 case s3=>exact fun e D=>by obtain⟨B,h1,h2,h3⟩:=h.s3 (gS e) (gT D);exact⟨B,h1,h2,by unfold Bk;rw[hx B h3.lt (bK h3 hq (by decide))];exact h3⟩
 case s6=>exact fun e=>by obtain⟨x,y,h1,h2⟩:=h.s6 (gS e);exact⟨x,y,h1,fB h2 fun b e=>hx b (oT h2 b e) (by obtain⟨d,hd⟩:=n9 h2 e;exact bK hd hq (by decide))⟩
 case s7=>exact fun e D=>by obtain⟨B,h1,h2,h3⟩:=h.s7 (gS e) (gT D);exact⟨B,h1,h2,by unfold Bk;rw[hx B h3.lt (bK h3 hq (by decide))];exact h3⟩
 case s10=>exact fun e=>by obtain⟨x,y,h1,h2⟩:=h.s10 (gS e);exact⟨x,y,h1,fB h2 fun b e=>hx b (oT h2 b e) (by obtain⟨d,hd⟩:=iQ h2 e;exact bK hd hq (by decide))⟩
 case s12=>exact fun _ D=>absurd D (by rw[gH (by omega)];decide)
 case s13=>exact fun _=>⟨q,H,G,x,y,M,J,h3,hn,Z,e7,S,R⟩
 case c11=>exact fun e=>by obtain⟨Y,U,T⟩:=h.c11 (gS e);exact⟨getD_upV Y,getD_upV U,getD_upV T⟩
 case c13=>exact fun _=>⟨getD_upV O,getD_upV I⟩
 all_goals (intro e;replace e:=gS e;first|solve_by_elim|exact getD_upV (by solve_by_elim))
def Ly (s:SS)(A N:Nat)(a0 a2 a3:Option iP)(c0 c2 c3:Nat)(W0:gX)(L:Array Bool)(a:Act)(W:gX):Prop:=
 L.size=14/\gD W0.heap.size W0 W/\∃z0 t3 z4 t5 t6 t7 t8 t9 t10 t11 t12 t13 t14 t15 t16 z17 z18 z19 z20 z21 z22 z23 z24 z25 z26 z27 z28 z29 z30 z31 z32 z33 z34 z35 z36:iM,
  a={ tmps:=#[z0,.pointer (some ⟨A,0,none⟩),.pointer (some ⟨A+1,0,none⟩),t3,z4,t5,t6,t7,t8,t9,t10,t11,t12,t13,t14,t15,t16,z17,z18,z19,z20,z21,z22,z23,z24,z25,z26,z27,z28,z29,z30,z31,z32,z33,z34,z35,z36],defers:=[] }/\eD s A N a0 a2 a3 c0 c2 c3 L W t3 t5 t6 t7 t8 t9 t10 t11 t12 t13 t14 t15 t16
theorem iC {i:Nat}{g:gX}{z0 z4 x5 x4 x3 x2 x1 x0 h9 Z Y U T R O M J I H G D B:iM}(x6:L.size=14)(hb:gD g.heap.size g W')(S:eD s A N a0 a2 a3 c0 c2 c3 (L.setIfInBounds i true) W' t3 t5 t6 t7 t8 t9 t10 t11 t12 t13 t14 t15 t16):
  Ly s A N a0 a2 a3 c0 c2 c3 g (L.setIfInBounds i true) { tmps:=#[z0,.pointer (some ⟨A,0,none⟩),.pointer (some ⟨A+1,0,none⟩),t3,z4,t5,t6,t7,t8,t9,t10,t11,t12,t13,t14,t15,t16,x5,x4,x3,x2,x1,x0,h9,Z,Y,U,T,R,O,M,J,I,H,G,D,B],defers:=[] } W':=
 ⟨by simp[x6],hb,_,_,_,_,_,_,_,_,_,_,_,_,_,_,_,_,_,_,_,_,_,_,_,_,_,_,_,_,_,_,_,_,_,_,_,rfl,S⟩
theorem gF {L:Array Bool}{j:Nat}(hl:j<L.size)(h:L.getD j false=true->False):L.getD j true=false:=by
 simp only[gM,Array.getElem?_eq_getElem hl,Option.getD_some]at h ⊢;cases e:L[j]
 ·rfl
 ·exact (h e).elim
theorem mY {W:gX}{N g:Nat}{T:TypeId}(B:Bk W q #[] T)(h:N<=q):W.ownsRow N T g (.slice (some ⟨q,0,none⟩) 0 0) 0 []:=
 ⟨by simp,.inr ⟨q,0,#[],rfl,h,B,Nat.le_refl _,by unfold maxLen;omega,by simp,by simp⟩⟩
theorem A8 {s:SS}{sp si sf sd:iM}{w:gX}(h:gE w sp si sf sd s)(t0:MQ s):
  Calls Tryz.prog 76 #[sv s.t.k s.t.n sp si sf sd] w fun e w'=>∃l3 l4 l5 l7,e=.returned (sv s.t.k s.t.n l3 l4 l5 l7)/\qF w' w.heap.size l3 l4 l5 l7 s/\gD w.heap.size w w':=by
 have HS:=(show Hid (gE w sp si sf sd s) from h);obtain⟨a0,c0,a1,c1,a2,c2,a3,c3,rfl,rfl,rfl,rfl⟩:=h.sl;obtain⟨f1,f2,f3,f4⟩:=t0;have HW:=(show Hid (∀l∈s.K,l.length<=1000) from f2);have bA:Bk ((w.alloc (.cells (sc s.t.k s.t.n (.slice a0 s.t.len c0) (.slice a1 s.K.length c1) (.slice a2 s.f.length c2) (.slice a3 s.d.length c3)) 30)).alloc (.cells #[.int .i64 0,.int .i64 0,.slice none 0 0,.slice none 0 0,.slice none 0 0,.slice none 0 0] 30)) w.heap.size (sc s.t.k s.t.n (.slice a0 s.t.len c0) (.slice a1 s.K.length c1) (.slice a2 s.f.length c2) (.slice a3 s.d.length c3)) 30:=(Bk.new _ _ rfl).alloc _;have bR:Bk ((w.alloc (.cells (sc s.t.k s.t.n (.slice a0 s.t.len c0) (.slice a1 s.K.length c1) (.slice a2 s.f.length c2) (.slice a3 s.d.length c3)) 30)).alloc (.cells #[.int .i64 0,.int .i64 0,.slice none 0 0,.slice none 0 0,.slice none 0 0,.slice none 0 0] 30)) (w.heap.size+1) #[.int .i64 0,.int .i64 0,.slice none 0 0,.slice none 0 0,.slice none 0 0,.slice none 0 0] 30:=Bk.new _ _ (by simp);have o1:gD w.heap.size w ((w.alloc (.cells (sc s.t.k s.t.n (.slice a0 s.t.len c0) (.slice a1 s.K.length c1) (.slice a2 s.f.length c2) (.slice a3 s.d.length c3)) 30)).alloc (.cells #[.int .i64 0,.int .i64 0,.slice none 0 0,.slice none 0 0,.slice none 0 0,.slice none 0 0] 30)):=aH (aH (fQ _ _) _) _;have rA:((w.alloc (.cells (sc s.t.k s.t.n (.slice a0 s.t.len c0) (.slice a1 s.K.length c1) (.slice a2 s.f.length c2) (.slice a3 s.d.length c3)) 30)).alloc (.cells #[.int .i64 0,.int .i64 0,.slice none 0 0,.slice none 0 0,.slice none 0 0,.slice none 0 0] 30)).heap.size=w.heap.size+2:=by simp
 have d3:=h.keep o1;clear h f2;go_enter Tryz.func76,Tryz.ntmps76;go_wp2_with fail;generalize ((w.alloc (.cells (sc s.t.k s.t.n (.slice a0 s.t.len c0) (.slice a1 s.K.length c1) (.slice a2 s.f.length c2) (.slice a3 s.d.length c3)) 30)).alloc (.cells #[.int .i64 0,.int .i64 0,.slice none 0 0,.slice none 0 0,.slice none 0 0,.slice none 0 0] 30))=W0 at*;have HX:Hid (∀V:gX,gD W0.heap.size W0 V->V.cell? ⟨w.heap.size,0,none⟩=some (.int .i64 s.t.k)/\V.cell? ⟨w.heap.size,1,none⟩=some (.int .i64 s.t.n)/\V.cell? ⟨w.heap.size,2,none⟩=some (.slice a0 s.t.len c0)/\V.cell? ⟨w.heap.size,3,none⟩=some (.slice a1 s.K.length c1)/\V.cell? ⟨w.heap.size,4,none⟩=some (.slice a2 s.f.length c2)/\V.cell? ⟨w.heap.size,5,none⟩=some (.slice a3 s.d.length c3)):=fun V hV=>(bA.keep hV).ae;have o4:Hid (∀V:gX,gD W0.heap.size W0 V->dN 0 V s.t (.slice a0 s.t.len c0)):=fun V hV=>(d3.keep hV).kd;have HQ:Hid (∀V:gX,gD W0.heap.size W0 V->Ts V (.slice a2 s.f.length c2) s.f/\Rs V (.slice a3 s.d.length c3) s.d):=fun V hV=>⟨(d3.keep hV).ts,(d3.keep hV).rs⟩;refine iW (by kernel_rfl) (Ly s w.heap.size (w.heap.size+2) a0 a2 a3 c0 c2 c3 W0) ?hg ?hs ?h0 ?hstep ?hend
 case hg=>
  intro i o ho;have hi:i<14:=(gQ.1 ho).1;obtain rfl|rfl|rfl|rfl|rfl|rfl|rfl|rfl|rfl|rfl|rfl|rfl|rfl|rfl:i=0\/i=1\/i=2\/i=3\/i=4\/i=5\/i=6\/i=7\/i=8\/i=9\/i=10\/i=11\/i=12\/i=13:=by omega
  all_goals cases ho;rfl
 case hs=>intro L a W hI;exact hI.1
 case h0=>
  refine⟨by simp,(fQ _ _).drew,_,_,_,_,_,_,_,_,_,_,_,_,_,_,_,_,_,_,_,_,_,_,_,_,_,_,_,_,_,_,_,_,_,_,_,rfl,?_⟩;constructor<;>(intro e;simp at e)
 case hstep=>
  rintro L a W i o ⟨D,B,z0,t3,z4,t5,t6,t7,t8,t9,t10,t11,t12,t13,t14,t15,t16,vP,vI,zW,zF,zD,zB,xV,xU,xE,hY,hX,hW,hU,hT,hS,hQ,hP,hO,hN,hL,rfl,S⟩ hi ho;obtain⟨O,o',n3,G⟩:=mem_ready.1 hi;rw[ho]at n3;cases n3;have nB:i<14:=(gQ.1 ho).1;have a8:w.heap.size+2<=W.heap.size:=by have:=B.size;omega
  clear hi;generalize U:(fun a' w'=>Ly s w.heap.size (w.heap.size+2) a0 a2 a3 c0 c2 c3 W0 (L.setIfInBounds i true) a' w')=K;obtain rfl|rfl|rfl|rfl|rfl|rfl|rfl|rfl|rfl|rfl|rfl|rfl|rfl|rfl:i=0\/i=1\/i=2\/i=3\/i=4\/i=5\/i=6\/i=7\/i=8\/i=9\/i=10\/i=11\/i=12\/i=13:=by omega
  ·cases ho;go_simp;subst U;exact iC D B (S.aw rfl)
  ·cases ho;have e0:=S.s0 (G ⟨0,.data⟩ (by simp) rfl);subst e0;obtain⟨x0,x1,x2,x3,x4,x5⟩:=HX.out _ B;go_simp;subst U;exact iC D B (S.au rfl)
  ·cases ho;have e1:=S.s1 (G ⟨1,.data⟩ (by simp) rfl);subst e1;go_simp;refine (nW s.t (o4.out _ B)).mono ?_;rintro e W1 ⟨ak,ck,rfl,kp,o0⟩;subst U;refine iC D (aG B o0) ((S.keep o0).ar (fun e=>gN (S.c11 e).1 O) (fun e=>gN (S.c11 (S.c13 e).1).1 O) ⟨ak,ck,rfl,kp.wk fun g hg=>⟨by omega,fun e4 e5=>?_⟩⟩);obtain⟨q,h1,h2,h3⟩:=S.s12 e4 (gF (by omega) fun e=>gN (S.c11 (S.c13 e).1).1 O);rw[h1]at e5;have:=h3.lt;exact LA (by omega) e5
  ·cases ho;go_simp;subst U;exact iC D (aG B (aH (fQ _ _) _)) ((S.keep (aH (fQ _ _) _)).aq a8 (Bk.new _ _ rfl))
  ·cases ho;go_simp;subst U;exact iC D B (S.be rfl)
  ·cases ho;have e0:=S.s4 (G ⟨4,.data⟩ (by simp) rfl);subst e0;obtain⟨x0,x1,x2,x3,x4,x5⟩:=HX.out _ B;go_simp;subst U;exact iC D B (S.cb rfl)
  ·cases ho;obtain⟨q,e8,hq,a6⟩:=S.s3 (G ⟨3,.data⟩ (by simp) rfl) O;subst e8;have e5:=S.s5 (G ⟨5,.data⟩ (by simp) rfl);subst e5;refine Qu _ rfl _ _ rfl (w.heap.size+2) (.slice (some ⟨q,0,none⟩) 0 0) [] rfl (mY a6 hq) _ s.f rfl (HQ.out _ B).1 (by simp;omega) a8 ?_;intro v5 w5 x8 a5;obtain⟨x,y,rfl⟩:∃a c,v5=.slice a s.f.length c:=Bc (l:=s.f) x8;have z7:bW w5 (w.heap.size+2) (.slice x s.f.length y) s.f:=x8;subst U;exact iC D (Below.aU B a5 (by omega) (fun z e=>by have:=nO e;omega)) (S.ca D (fun e=>gN (S.c11 e).2.1 O) (fun e=>gN (S.c11 (S.c13 e).1).2.1 O) a6 (fun z J hne=>a5.block z J (fun e=>hne (nO e.symm).symm)) z7)
  ·cases ho;go_simp;subst U;exact iC D (aG B (aH (fQ _ _) _)) ((S.keep (aH (fQ _ _) _)).cZ a8 (Bk.new _ _ rfl))
  ·cases ho;go_simp;subst U;exact iC D B (S.cN rfl)
  ·cases ho;have e0:=S.s8 (G ⟨8,.data⟩ (by simp) rfl);subst e0;obtain⟨x0,x1,x2,x3,x4,x5⟩:=HX.out _ B;go_simp;subst U;exact iC D B (S.cg rfl)
  ·cases ho;obtain⟨q,e8,hq,a6⟩:=S.s7 (G ⟨7,.data⟩ (by simp) rfl) O;subst e8;have e5:=S.s9 (G ⟨9,.data⟩ (by simp) rfl);subst e5;refine Qt _ rfl _ _ rfl (w.heap.size+2) (.slice (some ⟨q,0,none⟩) 0 0) [] rfl (mY a6 hq) _ s.d rfl (HQ.out _ B).2 (by simp;omega) a8 ?_;intro v5 w5 x8 a5;obtain⟨x,y,rfl⟩:∃a c,v5=.slice a s.d.length c:=by
    obtain⟨a,c,e,_⟩:=Rs.open (aC.rs x8 (by simp;omega));exact⟨a,c,by simpa using e⟩
   have z7:aC w5 (w.heap.size+2) (.slice x s.d.length y) s.d:=x8;subst U;exact iC D (Below.aU B a5 (by omega) (fun z e=>by have:=nO e;omega)) (S.bQ D (fun e=>gN (S.c11 e).2.2 O) (fun e=>gN (S.c11 (S.c13 e).1).2.2 O) a6 (fun z J hne=>a5.block z J (fun e=>hne (nO e.symm).symm)) z7)
  ·cases ho;have l2:=G ⟨2,.data⟩ (by simp) rfl;have l6:=G ⟨6,.data⟩ (by simp) rfl;have l9:=G ⟨10,.data⟩ (by simp) rfl;obtain⟨ak,ck,e7,-⟩:=S.s2 l2;obtain⟨x,y,z5,-⟩:=S.s6 l6;obtain⟨I,H,z3,-⟩:=S.s10 l9;subst e7 z5 z3;go_simp;subst U;exact iC D B (S.bL ⟨l2,l6,l9⟩ ⟨ak,ck,x,y,I,H,rfl,rfl,rfl,rfl⟩)
  ·cases ho;go_simp;subst U;exact iC D (aG B (aH (fQ _ _) _)) (S.az (fun e=>gN (S.c13 e).2 O) a8 (Bk.new _ _ rfl) (aH (fQ _ _) _) rfl)
  ·cases ho;have v9:=G ⟨12,.data⟩ (by simp) rfl;have l8:=G ⟨11,.data⟩ (by simp) rfl;obtain⟨q,e3,hq,bq⟩:=S.s12 v9 O;obtain⟨ak,ck,x,y,I,H,bI,e7,z5,z3⟩:=S.s11 l8;subst e3 bI e7 z5 z3;have g0:=bq.free 0;have q1:=bq.set 0 (.int .i64 s.t.k);have g1:=q1.free 1;have q2:=q1.set 1 (.int .i64 s.t.n);have g2:=q2.free 2;have q3:=q2.set 2 (.slice ak s.t.len ck);have g3:=q3.free 3;have q4:=q3.set 3 dM;have g4:=q4.free 4;have q5:=q4.set 4 (.slice x s.f.length y);have g5:=q5.free 5;have q6:Bk ((((((W.setCell ⟨q,0,none⟩ (.int .i64 s.t.k)).setCell ⟨q,1,none⟩ (.int .i64 s.t.n)).setCell ⟨q,2,none⟩ (.slice ak s.t.len ck)).setCell ⟨q,3,none⟩ (dM)).setCell ⟨q,4,none⟩ (.slice x s.f.length y)).setCell ⟨q,5,none⟩ (.slice I s.d.length H)) q #[.int .i64 s.t.k,.int .i64 s.t.n,.slice ak s.t.len ck,dM,.slice x s.f.length y,.slice I s.d.length H] 30:=q5.set 5 (.slice I s.d.length H);obtain⟨y0,y1,y2,y3,y4,y5⟩:=bq.ae;have R:∀z,z<W.heap.size->z≠q->((((((W.setCell ⟨q,0,none⟩ (.int .i64 s.t.k)).setCell ⟨q,1,none⟩ (.int .i64 s.t.n)).setCell ⟨q,2,none⟩ (.slice ak s.t.len ck)).setCell ⟨q,3,none⟩ (dM)).setCell ⟨q,4,none⟩ (.slice x s.f.length y)).setCell ⟨q,5,none⟩ (.slice I s.d.length H)).heap[z]?=W.heap[z]?:=fun z _ J=>(((((fM _ _ _ _ J).trans (fM _ _ _ _ J)).trans (fM _ _ _ _ J)).trans (fM _ _ _ _ J)).trans (fM _ _ _ _ J)).trans (fM _ _ _ _ J);have z1:W0.heap.size<=q:=by omega
   go_simp;subst U;exact iC D ((((((B.setCell z1 _).setCell z1 _).setCell z1 _).setCell z1 _).setCell z1 _).setCell z1 _) (S.bu D l8 v9 rfl hq bq R q6 rfl rfl rfl)
 case hend=>
  rintro L a W ⟨D,B,z0,t3,z4,t5,t6,t7,t8,t9,t10,t11,t12,t13,t14,t15,t16,vP,vI,zW,zF,zD,zB,xV,xU,xE,hY,hX,hW,hU,hT,hS,hQ,hP,hO,hN,hL,rfl,S⟩ hr;have T:∀j,j<14->L.getD j false=true:=by
   refine jC (by simpa using D) ?_ hr;intro i o ho;have hi:i<14:=(gQ.1 ho).1;obtain rfl|rfl|rfl|rfl|rfl|rfl|rfl|rfl|rfl|rfl|rfl|rfl|rfl|rfl:i=0\/i=1\/i=2\/i=3\/i=4\/i=5\/i=6\/i=7\/i=8\/i=9\/i=10\/i=11\/i=12\/i=13:=by omega
   all_goals cases ho
   all_goals (first|(simp;done)|(simp[Region.binds];done)|decide)
  obtain⟨q,ak,ck,x,y,I,H,e3,aS,bN,e7,z5,z3⟩:=S.s13 (T 13 (by omega));obtain⟨bS,bP,a9,kp⟩:=S.s2 (T 2 (by omega));obtain⟨x1,y1,v0,g6⟩:=S.s6 (T 6 (by omega));obtain⟨x2,y2,z9,f9⟩:=S.s10 (T 10 (by omega));have v9:=T 12 (by omega);rw[e7]at a9;rw[z5]at v0;rw[z3]at z9;obtain⟨rfl,-,rfl⟩:ak=bS/\True/\ck=bP:=by simp at a9;exact⟨a9.1,trivial,a9.2⟩
  obtain⟨rfl,rfl⟩:x=x1/\y=y1:=by simp at v0;exact v0
  obtain⟨rfl,rfl⟩:I=x2/\H=y2:=by simp at z9;exact z9
  subst e3;have j4:Hid (Nl s w (sc s.t.k s.t.n (.slice a0 s.t.len c0) (.slice a1 s.K.length c1) (.slice a2 s.f.length c2) (.slice a3 s.d.length c3)) q W.heap.size 0 (.slice ak s.t.len ck) (.slice x s.f.length y) (.slice I s.d.length H) s.f s.d W):=
   ⟨Nat.zero_le _,⟨_,[],oN _ _ _ _ _,j7.nil _ _,bN⟩,kp.move fun g hg hl=>⟨⟨hg.1,hl,fun e=>hg.2 v9 (by rw[e])⟩,rfl⟩,g6,f9,bA.keep B,bR.keep B,aS,bN.lt,aG o1 B⟩
  have sD:W.heap.size<=W.heap.size:=Nat.le_refl _;obtain⟨x0,x1,x2,x3,x4,x5⟩:=HX.out _ B;clear T S hr v9 kp g6 f9 bN bA bR d3 a9 v0 z9 e7 z5 z3 D;go_wp2_with fail;clear x0 x1 x2 x3 x4 x5;generalize d4:(iM.slice ak s.t.len ck)=x9 at*;obtain⟨M,hM⟩:∃M,M=W.heap.size:=⟨_,rfl⟩;rw[<- hM]at j4;have nD:w.heap.size+2<=M:=by have:=B.size;omega
  go_loopw [4] (fun i wr=>∃k:Nat,i=.int .i64 k/\Nl s w (sc s.t.k s.t.n (.slice a0 s.t.len c0) (.slice a1 s.K.length c1) (.slice a2 s.f.length c2) (.slice a3 s.d.length c3)) q M k x9 (.slice x s.f.length y) (.slice I s.d.length H) s.f s.d wr/\M<=wr.heap.size) (fun i _=>s.K.length-(intOf i).toNat)
  case atStart=>exact⟨0,rfl,j4.out,by omega⟩
  case round=>
   clear j4 B hM HX o4 HQ;obtain⟨k,rfl,hI,o2⟩:=hrel;obtain⟨rE,⟨lv,vs,m5,i3,bB⟩,n4,b5,b6,bA,bR,r8,aE,B⟩:=hI;have HO:=(show Hid (i7 wr M lv vs) from m5);have HE:=(show Hid (j7 wr M vs (s.K.take k)) from i3);have j3:=(show Hid (fJ (fun g=>w.heap.size+2<=g/\g<M/\g≠q) wr s.t x9) from n4);have HV:Hid (vs.length=k):=by show _=_;rw[i3.1,List.length_take];omega
   clear m5 i3 n4;obtain⟨av,Y,Z,bF⟩:∃a n c,lv=.slice a n c:=by
    obtain⟨a,c,e,-⟩:=i7.vs HO.out (by have:=HV.out;omega);exact⟨a,_,c,e⟩
   subst bF;obtain⟨x0,x1,x2,x3,x4,x5⟩:=bA.ae
   by_cases g7:k<s.K.length
   ·obtain⟨l,b7⟩:∃l,s.K[k]?=some l:=⟨_,List.getElem?_eq_getElem g7⟩;obtain⟨a',oK,e',-,-,-,c4⟩:=(HS.out.keep B).ly.open;cases e';obtain⟨g,off,ad,cp,rfl,rL,o3,hR⟩:=c4 k l b7;have ik:((k:Int)<(s.K.length:Int)):=by omega
    have HL:=(show Hid (s.K[k]?=some l) from b7);have rD:l.length<=1000:=HW.out l (List.mem_of_getElem? b7);have HB:=(show Hid (Bk wr q #[.int .i64 s.t.k,.int .i64 s.t.n,x9,.slice av Y Z,.slice x s.f.length y,.slice I s.d.length H] 30) from bB);have HA:=(show Hid (Bk wr w.heap.size (sc s.t.k s.t.n (.slice a0 s.t.len c0) (.slice (some ⟨g,off,none⟩) s.K.length c1) (.slice a2 s.f.length c2) (.slice a3 s.d.length c3)) 30) from bA);have HR:=(show Hid (Bk wr (w.heap.size+1) #[.int .i64 0,.int .i64 0,.slice none 0 0,.slice none 0 0,.slice none 0 0,.slice none 0 0] 30) from bR);have HC:Hid (∀V,gD wr.heap.size wr V->V.cell? ⟨q,3,none⟩=some (.slice av Y Z)/\V.cell? ⟨w.heap.size,3,none⟩=some (.slice (some ⟨g,off,none⟩) s.K.length c1)/\V.cell? ⟨g,off+k,none⟩=some (.slice ad l.length cp)):=fun V hV=>⟨(bB.keep hV).ae.2.2.2.1,(bA.keep hV).ae.2.2.2.1,cB hV o3⟩;have hd:gD wr.heap.size wr wr.drew:=(fQ _ _).drew;have n6:gD wr.heap.size wr (wr.alloc (.cells #[] 55)):=aH (fQ _ _) _;have d0:gD wr.heap.size wr ((wr.alloc (.cells #[] 55)).drew):=n6.drew;have OE:aC ((wr.alloc (.cells #[] 55)).drew) wr.heap.size (.slice (some ⟨wr.heap.size,0,none⟩) 0 0) []:=lT wr rfl;have zE:wr.heap.size<=((wr.alloc (.cells #[] 55)).drew).heap.size:=d0.size;have RE:Rs ((wr.alloc (.cells #[] 55)).drew) (.slice ad l.length cp) l:=hR.keep d0;clear c4 b7 hR bA bB bR x0 x1 x2 x4 x5;go_wp2_with fail;obtain⟨i0,i1,i2⟩:=HC.out _ (fQ _ _);obtain⟨j0,j1,j2⟩:=HC.out _ hd;obtain⟨k0,k1,k2⟩:=HC.out _ n6;obtain⟨l0,l1,l2⟩:=HC.out _ d0
    go_region_law (first
     | (refine rH _ rfl _ _ rfl wr.heap.size _ [] rfl OE _ l rfl RE (by simp;omega) zE ?_;intro v7 w7 b2 n5;obtain⟨a7,c7,rfl⟩:∃a c,v7=.slice a l.length c:=(by obtain⟨a,c,e,_⟩:=Rs.open (aC.rs b2 (by simp;omega));exact⟨a,c,by simpa using e⟩);have b4:aC w7 wr.heap.size (.slice a7 l.length c7) l:=b2;have i4:gD wr.heap.size wr w7:=Below.aU d0 n5 zE (bU OE);have y7:gD wr.heap.size wr (w7.alloc (.cells #[.slice a7 l.length c7] 28)):=aH i4 _;have O8:i7 (w7.alloc (.cells #[.slice a7 l.length c7] 28)) M (.slice av Y Z) vs:=cC HO.out y7;have B8:Bk (w7.alloc (.cells #[.slice a7 l.length c7] 28)) w7.heap.size #[.slice a7 l.length c7] 28:=Bk.new _ _ rfl;have m3:M<=(w7.alloc (.cells #[.slice a7 l.length c7] 28)).heap.size:=Nat.le_trans o2 y7.size;obtain⟨m0,m1,m2⟩:=HC.out _ i4;obtain⟨n0,n1,n2⟩:=HC.out _ y7;have m4:aC (w7.alloc (.cells #[.slice a7 l.length c7] 28)) wr.heap.size (.slice a7 l.length c7) l:=b4.alloc _)
     | (refine QN _ rfl _ _ rfl M (.slice av Y Z) vs rfl O8 _ _ _ _ rfl B8 (by have:=HV.out;omega) m3 ?_;intro g9 b3 w9 f8 b8 aF;have b9:=(HB.out.keep y7).aU b8 (fun z e=>by obtain⟨d,aI⟩:=nY O8 e;exact bK (HB.out.keep y7) aI (by decide));obtain⟨r0,r1,r2,r3,r4,r5⟩:=b9.ae;have bD:=b9.free 3))
    all_goals
     have HN:Hid (Nl s w (sc s.t.k s.t.n (.slice a0 s.t.len c0) (.slice (some ⟨g,off,none⟩) s.K.length c1) (.slice a2 s.f.length c2) (.slice a3 s.d.length c3)) q M (k+1) x9 (.slice x s.f.length y) (.slice I s.d.length H) s.f s.d (w9.setCell ⟨q,3,none⟩ (.slice (some ⟨g9,0,none⟩) (vs.length+1) b3))/\M<=(w9.setCell ⟨q,3,none⟩ (.slice (some ⟨g9,0,none⟩) (vs.length+1) b3)).heap.size):=⟨NS HL.out (by omega) HO.out HE.out HB.out j3.out b5 b6 HA.out HR.out r8 aE B o2 y7 m4 f8 b8,by have:=b8.size;simp[gX.setCell];omega⟩;have bX:Hid (k<s.K.length):=g7;clear f8 b8 aF b9 r0 r1 r2 r3 r4 r5 bD b2 b4 n5 i4 y7 O8 B8 m3 m0 m1 m2 n0 n1 n2 m4 i0 i1 i2 j0 j1 j2 k0 k1 k2 l0 l1 l2 g7 o3 x3;generalize w9.setCell ⟨q,3,none⟩ (.slice (some ⟨g9,0,none⟩) (vs.length+1) b3)=wN at*;go_wp2_with fail;go_roundw
     case rel=>exact⟨k+1,by go_num,HN.out⟩
     case measure=>have:=bX.out;simp[intOf];omega
   ·obtain rfl:k=s.K.length:=by omega
    have ik:¬((s.K.length:Int)<(s.K.length:Int)):=by omega
    have z8:=HO.out;have y6:=HE.out;rw[List.take_length]at y6;have g8:=j3.out;obtain⟨kk,kn,kc,k5⟩:∃a n c,x9=.slice a n c:=⟨_,_,_,d4.symm⟩;clear d4 HO HE j3;subst k5;obtain⟨w0,w1,w2,w3,w4,w5⟩:=bB.ae;obtain⟨y0,y1,y2,y3,y4,y5⟩:=bR.ae;have g0:=bR.free 0;have q1:=bR.set 0 (.int .i64 s.t.k);have g1:=q1.free 1;have q2:=q1.set 1 (.int .i64 s.t.n);have g2:=q2.free 2;have q3:=q2.set 2 (.slice kk kn kc);have g3:=q3.free 3;have q4:=q3.set 3 (.slice av Y Z);have g4:=q4.free 4;have q5:=q4.set 4 (.slice x s.f.length y);have g5:=q5.free 5;have q6:Bk ((((((wr.setCell ⟨w.heap.size+1,0,none⟩ (.int .i64 s.t.k)).setCell ⟨w.heap.size+1,1,none⟩ (.int .i64 s.t.n)).setCell ⟨w.heap.size+1,2,none⟩ (.slice kk kn kc)).setCell ⟨w.heap.size+1,3,none⟩ (.slice av Y Z)).setCell ⟨w.heap.size+1,4,none⟩ (.slice x s.f.length y)).setCell ⟨w.heap.size+1,5,none⟩ (.slice I s.d.length H)) (w.heap.size+1) #[.int .i64 s.t.k,.int .i64 s.t.n,.slice kk kn kc,.slice av Y Z,.slice x s.f.length y,.slice I s.d.length H] 30:=q5.set 5 (.slice I s.d.length H);obtain⟨r0,r1,r2,r3,r4,r5⟩:=q6.ae;have R:∀z,z≠w.heap.size+1->((((((wr.setCell ⟨w.heap.size+1,0,none⟩ (.int .i64 s.t.k)).setCell ⟨w.heap.size+1,1,none⟩ (.int .i64 s.t.n)).setCell ⟨w.heap.size+1,2,none⟩ (.slice kk kn kc)).setCell ⟨w.heap.size+1,3,none⟩ (.slice av Y Z)).setCell ⟨w.heap.size+1,4,none⟩ (.slice x s.f.length y)).setCell ⟨w.heap.size+1,5,none⟩ (.slice I s.d.length H)).heap[z]?=wr.heap[z]?:=fun z J=>(((((fM _ _ _ _ J).trans (fM _ _ _ _ J)).trans (fM _ _ _ _ J)).trans (fM _ _ _ _ J)).trans (fM _ _ _ _ J)).trans (fM _ _ _ _ J);have HF:Hid (qF ((((((wr.setCell ⟨w.heap.size+1,0,none⟩ (.int .i64 s.t.k)).setCell ⟨w.heap.size+1,1,none⟩ (.int .i64 s.t.n)).setCell ⟨w.heap.size+1,2,none⟩ (.slice kk kn kc)).setCell ⟨w.heap.size+1,3,none⟩ (.slice av Y Z)).setCell ⟨w.heap.size+1,4,none⟩ (.slice x s.f.length y)).setCell ⟨w.heap.size+1,5,none⟩ (.slice I s.d.length H)) w.heap.size (.slice kk kn kc) (.slice av Y Z) (.slice x s.f.length y) (.slice I s.d.length H) s):=by
     refine⟨g8.move fun z J _=>⟨⟨by omega,fun e=>by have:=bU z8 z e;omega⟩,R z (by omega)⟩,⟨vs,cW (fB z8 fun z e=>R z (by have:=bU z8 z e;omega)) (by omega),?_⟩,cW (fB b5 fun z e=>R z (by have:=bU b5 z e;omega)) (by omega),cW (fB b6 fun z e=>R z (by have:=bU b6 z e;omega)) (by omega)⟩;refine j7.less ⟨y6.1,fun i u l h1 h2=>?_,y6.2.2⟩ (show w.heap.size<=M by omega);have ho:=y6.2.1 i u l h1 h2;exact fB ho fun z e=>R z (by have:=bU ho z e;omega)
    have cA:Hid (gD w.heap.size w ((((((wr.setCell ⟨w.heap.size+1,0,none⟩ (.int .i64 s.t.k)).setCell ⟨w.heap.size+1,1,none⟩ (.int .i64 s.t.n)).setCell ⟨w.heap.size+1,2,none⟩ (.slice kk kn kc)).setCell ⟨w.heap.size+1,3,none⟩ (.slice av Y Z)).setCell ⟨w.heap.size+1,4,none⟩ (.slice x s.f.length y)).setCell ⟨w.heap.size+1,5,none⟩ (.slice I s.d.length H))):=(((((B.setCell (by simp) _).setCell (by simp) _).setCell (by simp) _).setCell (by simp) _).setCell (by simp) _).setCell (by simp) _;clear z8 y6 b5 b6 g8 bB bR B R q1 q2 q3 q4 q5 q6;go_wp2_with fail;refine bodyPost_ret (v:=sv s.t.k s.t.n (.slice kk kn kc) (.slice av Y Z) (.slice x s.f.length y) (.slice I s.d.length H)) (by simp[results,Tryz.results76,go_sem,r0,r1,r2,r3,r4,r5];try rfl) rfl ?_;exact⟨_,_,_,_,rfl,HF.out,cA.out⟩
end Go.Proofs.YtbdpcngcbnoioaaGreatDoor
