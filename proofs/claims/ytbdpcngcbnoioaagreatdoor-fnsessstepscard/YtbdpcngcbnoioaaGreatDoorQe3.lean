import Derived.Test.YtbdpcngcbnoioaaGreatDoorGqe
namespace Go.Proofs.YtbdpcngcbnoioaaGreatDoor
open Go.RowKit Go.Shelf
open Go renaming Value->fD,World->fH
open _root_.Option.some renaming inj->fV
open _root_.Option renaming some->gY
variable {N:Nat}{P:Nat->Prop}{W:fH}{m u x:fD}
theorem LZ {o:Oper}{a:Act}{Kk:Act->fH->Prop}{Q:Exit->Act->fH->Prop}(w:fH)(s x:Operand)(ho:o.op=.call { callee:= .builtin .append,args:=#[s,x],argTypes:=#[27,27] })
  (g:Nat) (v:fD) (l:LI) (hs:a.eval s=v) (F:aW w g v l) (D:fD) (m:LI) (hx:a.eval x=D) (G:Ts w D m) (hl:l.length+m.length<=2000000) (B:g<=w.heap.size)
  (h:∀v' A,aW A g v' (l++m)->w.grownBy A v.ownBlock->Kk (a.put o.dst v') A):Oper.wp Tryz.prog o a w Kk Q:=
 Jy (enc:=Br) Tryz.underlying27 mW (by omega) (by omega) rfl vC (fun p=>mV _ _) w s x ho g v l hs F D m hx (D9 G) hl B fun v' A h1 h2=>h v' A h1 h2
def p6 (N:Nat)(s':SS)(m':List Rw)(W:fH)(P:Nat->Prop)(x m:fD):Prop:=∃sp si sf sd:fD,x=sv s'.t.k s'.t.n sp si sf sd/\fF W P sp si sf sd s'/\aD W N m m'
theorem p6.move {s':SS}{m':List Rw}{W1:fH}{Q:Nat->Prop}(h:p6 N s' m' W P x m)(H:∀z,P z->z<W.heap.size->Q z/\W1.heap[z]?=W.heap[z]?)(hs:W.heap.size<=W1.heap.size)(hm:∀z,m.ownBlock=some z->W1.heap[z]?=W.heap[z]?):p6 N s' m' W1 Q x m:=by
 obtain⟨a,g,s,A,h1,h2,h3⟩:=h;exact⟨a,g,s,A,h1,h2.move H hs,dF h3 hm⟩
theorem p6.rows {s':SS}{m':List Rw}(h:p6 N s' m' W P x m):aD W N m m':=by
 obtain⟨_,_,_,_,_,_,h3⟩:=h;exact h3
theorem p6.keep {s':SS}{m':List Rw}{W1:fH}(h:p6 N s' m' W P x m)(a:Below W.heap.size W W1):p6 N s' m' W1 P x m:=
 h.move (fun z g hl=>⟨g,a.block z hl⟩) a.size fun z e=>a.block z (oT h.rows z e)
theorem p6.wk {s':SS}{m':List Rw}{Q:Nat->Prop}(h:p6 N s' m' W P x m)(H:∀z,P z->z<W.heap.size->Q z):p6 N s' m' W Q x m:=h.move (fun z a hl=>⟨H z a hl,rfl⟩) (Nat.le_refl _) fun _ _=>rfl
structure dJ (N b:Nat)(SV FV TV GV:fD)(f E M:LI)(s':SS)(m':List Rw)(L:Array Bool)(W:fH)(t15 t16 t17 t85 t86 t87 t88 t89 t90 t91 t92 t93 t94 t95 t96 t97 t98 t99:fD):Prop where
 s0:L.getD 0 false=true->t86=SV
 s2:L.getD 2 false=true->t88=TV
 s4:L.getD 4 false=true->t90=.pointer (some ⟨b,4,none⟩)
 s5:L.getD 5 false=true->t91=FV
 s6:L.getD 6 false=true->t92=GV
 s1:L.getD 1 false=true->L.getD 3 true=false->∃q:Nat,t87=.slice (some ⟨q,0,none⟩) 0 0/\N<=q/\Bk W q #[] 32/\(L.getD 7 false=true->∀p,t93.ownBlock=some p->p≠q)
 s3:L.getD 3 false=true->L.getD 8 true=false->aW W N t89 f
 s7:L.getD 7 false=true->L.getD 8 true=false->aW W N t93 E
 s8:L.getD 8 false=true->L.getD 10 true=false->aW W N t94 (f++E)
 s9:L.getD 9 false=true->L.getD 10 true=false->aW W N t95 M
 s10:L.getD 10 false=true->∃x m:fD,t96=.tuple #[x,m,.bool true]/\p6 N s' m' W (fun z=>N<=z/\(L.getD 15 false=true->t15≠ .pointer (some ⟨z,0,none⟩))) x m
 s11:L.getD 11 false=true->t85=t96
 s12:L.getD 12 false=true->∃x m:fD,t96=.tuple #[x,m,.bool true]/\t97=x
 s13:L.getD 13 false=true->∃x m:fD,t96=.tuple #[x,m,.bool true]/\t98=m
 s14:L.getD 14 false=true->t99=.bool true
 z:L.getD 15 false=true->L.getD 16 true=false->∃q:Nat,t15=.pointer (some ⟨q,0,none⟩)/\N<=q/\Bk W q #[.int .i64 0,.int .i64 0,.slice none 0 0,.slice none 0 0,.slice none 0 0,.slice none 0 0] 30
 s16:L.getD 16 false=true->∃(q:Nat)(k2 n2:Int)(e0 e1 e2 e3 m:fD),t15=.pointer (some ⟨q,0,none⟩)/\t96=.tuple #[sv k2 n2 e0 e1 e2 e3,m,.bool true]/\Bk W q #[.int .i64 k2,.int .i64 n2,e0,e1,e2,e3] 30
 s17:L.getD 17 false=true->∃x m:fD,t96=.tuple #[x,m,.bool true]/\t16=m
 s18:L.getD 18 false=true->t17=.bool true
 c3a:L.getD 3 false=true->L.getD 1 false=true
 c8a:L.getD 8 false=true->L.getD 3 false=true
 c8b:L.getD 8 false=true->L.getD 7 false=true
 c9a:L.getD 9 false=true->L.getD 8 false=true
 c10a:L.getD 10 false=true->L.getD 9 false=true
 c11a:L.getD 11 false=true->L.getD 10 false=true
 c12a:L.getD 12 false=true->L.getD 10 false=true
 c13a:L.getD 13 false=true->L.getD 10 false=true
 c14a:L.getD 14 false=true->L.getD 10 false=true
 c16a:L.getD 16 false=true->L.getD 10 false=true
 c16b:L.getD 16 false=true->L.getD 15 false=true
 c17a:L.getD 17 false=true->L.getD 10 false=true
 c18a:L.getD 18 false=true->L.getD 10 false=true
section
variable {N b:Nat}{SV FV TV GV:fD}{f E M:LI}{s':SS}{m':List Rw}{L:Array Bool}{W W':fH}{t15 t16 t17 t85 t86 t87 t88 t89 t90 t91 t92 t93 t94 t95 t96 t97 t98 t99:fD}
theorem dJ.keep (h:dJ N b SV FV TV GV f E M s' m' L W t15 t16 t17 t85 t86 t87 t88 t89 t90 t91 t92 t93 t94 t95 t96 t97 t98 t99)(g:Below W.heap.size W W'):dJ N b SV FV TV GV f E M s' m' L W' t15 t16 t17 t85 t86 t87 t88 t89 t90 t91 t92 t93 t94 t95 t96 t97 t98 t99 where
 s0:=h.s0
 s2:=h.s2
 s4:=h.s4
 s5:=h.s5
 s6:=h.s6
 s1:=fun e a=>by obtain⟨q,h1,h2,h3,h4⟩:=h.s1 e a;exact⟨q,h1,h2,h3.keep g,h4⟩
 s3:=fun e a=>bJ (h.s3 e a) g
 s7:=fun e a=>bJ (h.s7 e a) g
 s8:=fun e a=>bJ (h.s8 e a) g
 s9:=fun e a=>bJ (h.s9 e a) g
 s10:=fun e=>by obtain⟨x,m,h1,h2⟩:=h.s10 e;exact⟨x,m,h1,h2.keep g⟩
 s11:=h.s11
 s12:=h.s12
 s13:=h.s13
 s14:=h.s14
 z:=fun e a=>by obtain⟨q,h1,h2,h3⟩:=h.z e a;exact⟨q,h1,h2,h3.keep g⟩
 s16:=fun e=>by obtain⟨q,s,n2,e0,D,B,A,m,h1,h2,h3⟩:=h.s16 e;exact⟨q,s,n2,e0,D,B,A,m,h1,h2,h3.keep g⟩
 s17:=h.s17
 s18:=h.s18
 c3a:=h.c3a
 c8a:=h.c8a
 c8b:=h.c8b
 c9a:=h.c9a
 c10a:=h.c10a
 c11a:=h.c11a
 c12a:=h.c12a
 c13a:=h.c13a
 c14a:=h.c14a
 c16a:=h.c16a
 c16b:=h.c16b
 c17a:=h.c17a
 c18a:=h.c18a
theorem dJ.be (h0:dJ N b SV FV TV GV f E M s' m' L W t15 t16 t17 t85 t86 t87 t88 t89 t90 t91 t92 t93 t94 t95 t96 t97 t98 t99)(s:u=SV):dJ N b SV FV TV GV f E M s' m' (L.setIfInBounds 0 true) W t15 t16 t17 t85 u t87 t88 t89 t90 t91 t92 t93 t94 t95 t96 t97 t98 t99:=by
 have h:=h0;exact {
  s0:=fun _=>s,
  s2:=fun e=>h.s2 (gS e),
  s4:=fun e=>h.s4 (gS e),
  s5:=fun e=>h.s5 (gS e),
  s6:=fun e=>h.s6 (gS e),
  s1:=fun e a=>by obtain⟨q,h1,h2,h3,h4⟩:=h.s1 (gS e) (gT a);exact⟨q,h1,h2,h3,fun e=>h4 (gS e)⟩,
  s3:=fun e a=>h.s3 (gS e) (gT a),
  s7:=fun e a=>h.s7 (gS e) (gT a),
  s8:=fun e a=>h.s8 (gS e) (gT a),
  s9:=fun e a=>h.s9 (gS e) (gT a),
  s10:=fun e=>by obtain⟨x,m,h1,h2⟩:=h.s10 (gS e);exact⟨x,m,h1,h2.wk fun z g _=>⟨g.1,fun e=>g.2 (gS e)⟩⟩,
  s11:=fun e=>h.s11 (gS e),
  s12:=fun e=>h.s12 (gS e),
  s13:=fun e=>h.s13 (gS e),
  s14:=fun e=>h.s14 (gS e),
  z:=fun e a=>h.z (gS e) (gT a),
  s16:=fun e=>h.s16 (gS e),
  s17:=fun e=>h.s17 (gS e),
  s18:=fun e=>h.s18 (gS e),
  c3a:=fun e=>a9 (h.c3a (gS e)),
  c8a:=fun e=>a9 (h.c8a (gS e)),
  c8b:=fun e=>a9 (h.c8b (gS e)),
  c9a:=fun e=>a9 (h.c9a (gS e)),
  c10a:=fun e=>a9 (h.c10a (gS e)),
  c11a:=fun e=>a9 (h.c11a (gS e)),
  c12a:=fun e=>a9 (h.c12a (gS e)),
  c13a:=fun e=>a9 (h.c13a (gS e)),
  c14a:=fun e=>a9 (h.c14a (gS e)),
  c16a:=fun e=>a9 (h.c16a (gS e)),
  c16b:=fun e=>a9 (h.c16b (gS e)),
  c17a:=fun e=>a9 (h.c17a (gS e)),
  c18a:=fun e=>a9 (h.c18a (gS e)) }
theorem dJ.au (h0:dJ N b SV FV TV GV f E M s' m' L W t15 t16 t17 t85 t86 t87 t88 t89 t90 t91 t92 t93 t94 t95 t96 t97 t98 t99)(s:u=TV):dJ N b SV FV TV GV f E M s' m' (L.setIfInBounds 2 true) W t15 t16 t17 t85 t86 t87 u t89 t90 t91 t92 t93 t94 t95 t96 t97 t98 t99:=by
 have h:=h0;exact {
  s0:=fun e=>h.s0 (gS e),
  s2:=fun _=>s,
  s4:=fun e=>h.s4 (gS e),
  s5:=fun e=>h.s5 (gS e),
  s6:=fun e=>h.s6 (gS e),
  s1:=fun e a=>by obtain⟨q,h1,h2,h3,h4⟩:=h.s1 (gS e) (gT a);exact⟨q,h1,h2,h3,fun e=>h4 (gS e)⟩,
  s3:=fun e a=>h.s3 (gS e) (gT a),
  s7:=fun e a=>h.s7 (gS e) (gT a),
  s8:=fun e a=>h.s8 (gS e) (gT a),
  s9:=fun e a=>h.s9 (gS e) (gT a),
  s10:=fun e=>by obtain⟨x,m,h1,h2⟩:=h.s10 (gS e);exact⟨x,m,h1,h2.wk fun z g _=>⟨g.1,fun e=>g.2 (gS e)⟩⟩,
  s11:=fun e=>h.s11 (gS e),
  s12:=fun e=>h.s12 (gS e),
  s13:=fun e=>h.s13 (gS e),
  s14:=fun e=>h.s14 (gS e),
  z:=fun e a=>h.z (gS e) (gT a),
  s16:=fun e=>h.s16 (gS e),
  s17:=fun e=>h.s17 (gS e),
  s18:=fun e=>h.s18 (gS e),
  c3a:=fun e=>a9 (h.c3a (gS e)),
  c8a:=fun e=>a9 (h.c8a (gS e)),
  c8b:=fun e=>a9 (h.c8b (gS e)),
  c9a:=fun e=>a9 (h.c9a (gS e)),
  c10a:=fun e=>a9 (h.c10a (gS e)),
  c11a:=fun e=>a9 (h.c11a (gS e)),
  c12a:=fun e=>a9 (h.c12a (gS e)),
  c13a:=fun e=>a9 (h.c13a (gS e)),
  c14a:=fun e=>a9 (h.c14a (gS e)),
  c16a:=fun e=>a9 (h.c16a (gS e)),
  c16b:=fun e=>a9 (h.c16b (gS e)),
  c17a:=fun e=>a9 (h.c17a (gS e)),
  c18a:=fun e=>a9 (h.c18a (gS e)) }
theorem dJ.aq (h0:dJ N b SV FV TV GV f E M s' m' L W t15 t16 t17 t85 t86 t87 t88 t89 t90 t91 t92 t93 t94 t95 t96 t97 t98 t99)(s:u=.pointer (some ⟨b,4,none⟩)):dJ N b SV FV TV GV f E M s' m' (L.setIfInBounds 4 true) W t15 t16 t17 t85 t86 t87 t88 t89 u t91 t92 t93 t94 t95 t96 t97 t98 t99:=by
 have h:=h0;exact {
  s0:=fun e=>h.s0 (gS e),
  s2:=fun e=>h.s2 (gS e),
  s4:=fun _=>s,
  s5:=fun e=>h.s5 (gS e),
  s6:=fun e=>h.s6 (gS e),
  s1:=fun e a=>by obtain⟨q,h1,h2,h3,h4⟩:=h.s1 (gS e) (gT a);exact⟨q,h1,h2,h3,fun e=>h4 (gS e)⟩,
  s3:=fun e a=>h.s3 (gS e) (gT a),
  s7:=fun e a=>h.s7 (gS e) (gT a),
  s8:=fun e a=>h.s8 (gS e) (gT a),
  s9:=fun e a=>h.s9 (gS e) (gT a),
  s10:=fun e=>by obtain⟨x,m,h1,h2⟩:=h.s10 (gS e);exact⟨x,m,h1,h2.wk fun z g _=>⟨g.1,fun e=>g.2 (gS e)⟩⟩,
  s11:=fun e=>h.s11 (gS e),
  s12:=fun e=>h.s12 (gS e),
  s13:=fun e=>h.s13 (gS e),
  s14:=fun e=>h.s14 (gS e),
  z:=fun e a=>h.z (gS e) (gT a),
  s16:=fun e=>h.s16 (gS e),
  s17:=fun e=>h.s17 (gS e),
  s18:=fun e=>h.s18 (gS e),
  c3a:=fun e=>a9 (h.c3a (gS e)),
  c8a:=fun e=>a9 (h.c8a (gS e)),
  c8b:=fun e=>a9 (h.c8b (gS e)),
  c9a:=fun e=>a9 (h.c9a (gS e)),
  c10a:=fun e=>a9 (h.c10a (gS e)),
  c11a:=fun e=>a9 (h.c11a (gS e)),
  c12a:=fun e=>a9 (h.c12a (gS e)),
  c13a:=fun e=>a9 (h.c13a (gS e)),
  c14a:=fun e=>a9 (h.c14a (gS e)),
  c16a:=fun e=>a9 (h.c16a (gS e)),
  c16b:=fun e=>a9 (h.c16b (gS e)),
  c17a:=fun e=>a9 (h.c17a (gS e)),
  c18a:=fun e=>a9 (h.c18a (gS e)) }
theorem dJ.ai (h0:dJ N b SV FV TV GV f E M s' m' L W t15 t16 t17 t85 t86 t87 t88 t89 t90 t91 t92 t93 t94 t95 t96 t97 t98 t99)(s:u=FV):dJ N b SV FV TV GV f E M s' m' (L.setIfInBounds 5 true) W t15 t16 t17 t85 t86 t87 t88 t89 t90 u t92 t93 t94 t95 t96 t97 t98 t99:=by
 have h:=h0;exact {
  s0:=fun e=>h.s0 (gS e),
  s2:=fun e=>h.s2 (gS e),
  s4:=fun e=>h.s4 (gS e),
  s5:=fun _=>s,
  s6:=fun e=>h.s6 (gS e),
  s1:=fun e a=>by obtain⟨q,h1,h2,h3,h4⟩:=h.s1 (gS e) (gT a);exact⟨q,h1,h2,h3,fun e=>h4 (gS e)⟩,
  s3:=fun e a=>h.s3 (gS e) (gT a),
  s7:=fun e a=>h.s7 (gS e) (gT a),
  s8:=fun e a=>h.s8 (gS e) (gT a),
  s9:=fun e a=>h.s9 (gS e) (gT a),
  s10:=fun e=>by obtain⟨x,m,h1,h2⟩:=h.s10 (gS e);exact⟨x,m,h1,h2.wk fun z g _=>⟨g.1,fun e=>g.2 (gS e)⟩⟩,
  s11:=fun e=>h.s11 (gS e),
  s12:=fun e=>h.s12 (gS e),
  s13:=fun e=>h.s13 (gS e),
  s14:=fun e=>h.s14 (gS e),
  z:=fun e a=>h.z (gS e) (gT a),
  s16:=fun e=>h.s16 (gS e),
  s17:=fun e=>h.s17 (gS e),
  s18:=fun e=>h.s18 (gS e),
  c3a:=fun e=>a9 (h.c3a (gS e)),
  c8a:=fun e=>a9 (h.c8a (gS e)),
  c8b:=fun e=>a9 (h.c8b (gS e)),
  c9a:=fun e=>a9 (h.c9a (gS e)),
  c10a:=fun e=>a9 (h.c10a (gS e)),
  c11a:=fun e=>a9 (h.c11a (gS e)),
  c12a:=fun e=>a9 (h.c12a (gS e)),
  c13a:=fun e=>a9 (h.c13a (gS e)),
  c14a:=fun e=>a9 (h.c14a (gS e)),
  c16a:=fun e=>a9 (h.c16a (gS e)),
  c16b:=fun e=>a9 (h.c16b (gS e)),
  c17a:=fun e=>a9 (h.c17a (gS e)),
  c18a:=fun e=>a9 (h.c18a (gS e)) }
theorem dJ.bm (h0:dJ N b SV FV TV GV f E M s' m' L W t15 t16 t17 t85 t86 t87 t88 t89 t90 t91 t92 t93 t94 t95 t96 t97 t98 t99)(s:u=GV):dJ N b SV FV TV GV f E M s' m' (L.setIfInBounds 6 true) W t15 t16 t17 t85 t86 t87 t88 t89 t90 t91 u t93 t94 t95 t96 t97 t98 t99:=by
 have h:=h0;exact {
  s0:=fun e=>h.s0 (gS e),
  s2:=fun e=>h.s2 (gS e),
  s4:=fun e=>h.s4 (gS e),
  s5:=fun e=>h.s5 (gS e),
  s6:=fun _=>s,
  s1:=fun e a=>by obtain⟨q,h1,h2,h3,h4⟩:=h.s1 (gS e) (gT a);exact⟨q,h1,h2,h3,fun e=>h4 (gS e)⟩,
  s3:=fun e a=>h.s3 (gS e) (gT a),
  s7:=fun e a=>h.s7 (gS e) (gT a),
  s8:=fun e a=>h.s8 (gS e) (gT a),
  s9:=fun e a=>h.s9 (gS e) (gT a),
  s10:=fun e=>by obtain⟨x,m,h1,h2⟩:=h.s10 (gS e);exact⟨x,m,h1,h2.wk fun z g _=>⟨g.1,fun e=>g.2 (gS e)⟩⟩,
  s11:=fun e=>h.s11 (gS e),
  s12:=fun e=>h.s12 (gS e),
  s13:=fun e=>h.s13 (gS e),
  s14:=fun e=>h.s14 (gS e),
  z:=fun e a=>h.z (gS e) (gT a),
  s16:=fun e=>h.s16 (gS e),
  s17:=fun e=>h.s17 (gS e),
  s18:=fun e=>h.s18 (gS e),
  c3a:=fun e=>a9 (h.c3a (gS e)),
  c8a:=fun e=>a9 (h.c8a (gS e)),
  c8b:=fun e=>a9 (h.c8b (gS e)),
  c9a:=fun e=>a9 (h.c9a (gS e)),
  c10a:=fun e=>a9 (h.c10a (gS e)),
  c11a:=fun e=>a9 (h.c11a (gS e)),
  c12a:=fun e=>a9 (h.c12a (gS e)),
  c13a:=fun e=>a9 (h.c13a (gS e)),
  c14a:=fun e=>a9 (h.c14a (gS e)),
  c16a:=fun e=>a9 (h.c16a (gS e)),
  c16b:=fun e=>a9 (h.c16b (gS e)),
  c17a:=fun e=>a9 (h.c17a (gS e)),
  c18a:=fun e=>a9 (h.c18a (gS e)) }
theorem dJ.bG (h0:dJ N b SV FV TV GV f E M s' m' L W t15 t16 t17 t85 t86 t87 t88 t89 t90 t91 t92 t93 t94 t95 t96 t97 t98 t99)(F:L.size=19)(a:L.getD 1 true=false)(s:Below W.heap.size W W')(A:N<=W.heap.size)(hq:Bk W' W.heap.size #[] 32):dJ N b SV FV TV GV f E M s' m' (L.setIfInBounds 1 true) W' t15 t16 t17 t85 t86 (.slice (some ⟨W.heap.size,0,none⟩) 0 0) t88 t89 t90 t91 t92 t93 t94 t95 t96 t97 t98 t99:=by
 have h:=h0.keep s;exact {
  s0:=fun e=>h.s0 (gS e),
  s2:=fun e=>h.s2 (gS e),
  s4:=fun e=>h.s4 (gS e),
  s5:=fun e=>h.s5 (gS e),
  s6:=fun e=>h.s6 (gS e),
  s1:=fun _ _=>⟨_,rfl,A,hq,fun e p B=>by have:=oT (h0.s7 (gS e) (gF (by omega) fun D=>gN (h0.c3a (h0.c8a D)) a)) p B;omega⟩,
  s3:=fun e _=>(gN (h.c3a (gS e)) a).elim,
  s7:=fun e g=>h.s7 (gS e) (gT g),
  s8:=fun e _=>(gN (h.c3a (h.c8a (gS e))) a).elim,
  s9:=fun e _=>(gN (h.c3a (h.c8a (h.c9a (gS e)))) a).elim,
  s10:=fun e=>(gN (h.c3a (h.c8a (h.c9a (h.c10a (gS e))))) a).elim,
  s11:=fun e=>(gN (h.c3a (h.c8a (h.c9a (h.c10a (h.c11a (gS e)))))) a).elim,
  s12:=fun e=>(gN (h.c3a (h.c8a (h.c9a (h.c10a (h.c12a (gS e)))))) a).elim,
  s13:=fun e=>(gN (h.c3a (h.c8a (h.c9a (h.c10a (h.c13a (gS e)))))) a).elim,
  s14:=fun e=>(gN (h.c3a (h.c8a (h.c9a (h.c10a (h.c14a (gS e)))))) a).elim,
  z:=fun e g=>h.z (gS e) (gT g),
  s16:=fun e=>(gN (h.c3a (h.c8a (h.c9a (h.c10a (h.c16a (gS e)))))) a).elim,
  s17:=fun e=>(gN (h.c3a (h.c8a (h.c9a (h.c10a (h.c17a (gS e)))))) a).elim,
  s18:=fun e=>(gN (h.c3a (h.c8a (h.c9a (h.c10a (h.c18a (gS e)))))) a).elim,
  c3a:=fun e=>a9 (h.c3a (gS e)),
  c8a:=fun e=>a9 (h.c8a (gS e)),
  c8b:=fun e=>a9 (h.c8b (gS e)),
  c9a:=fun e=>a9 (h.c9a (gS e)),
  c10a:=fun e=>a9 (h.c10a (gS e)),
  c11a:=fun e=>a9 (h.c11a (gS e)),
  c12a:=fun e=>a9 (h.c12a (gS e)),
  c13a:=fun e=>a9 (h.c13a (gS e)),
  c14a:=fun e=>a9 (h.c14a (gS e)),
  c16a:=fun e=>a9 (h.c16a (gS e)),
  c16b:=fun e=>a9 (h.c16b (gS e)),
  c17a:=fun e=>a9 (h.c17a (gS e)),
  c18a:=fun e=>a9 (h.c18a (gS e)) }
theorem dJ.ar (h0:dJ N b SV FV TV GV f E M s' m' L W t15 t16 t17 t85 t86 t87 t88 t89 t90 t91 t92 t93 t94 t95 t96 t97 t98 t99)(D:L.getD 1 false=true)(J:L.size=19)(a:L.getD 3 true=false){q:Nat}(G:Bk W q #[] 32)(F:L.getD 7 false=true->∀p,t93.ownBlock=some p->p≠q)(hg:W.grownBy W' (some q))(I:aW W' N u f):dJ N b SV FV TV GV f E M s' m' (L.setIfInBounds 3 true) W' t15 t16 t17 t85 t86 t87 t88 u t90 t91 t92 t93 t94 t95 t96 t97 t98 t99:=by
 have B:=D;have h:=h0;exact {
  s0:=fun e=>h.s0 (gS e),
  s2:=fun e=>h.s2 (gS e),
  s4:=fun e=>h.s4 (gS e),
  s5:=fun e=>h.s5 (gS e),
  s6:=fun e=>h.s6 (gS e),
  s1:=fun _ g=>absurd g (by rw[gH (by omega)];decide),
  s3:=fun _ _=>I,
  s7:=fun e g=>dF (h.s7 (gS e) (gT g)) fun p H=>hg.block p (oT (h.s7 (gS e) (gT g)) p H) (fun s=>F (gS e) p H (fV s)),
  s8:=fun e _=>(gN (h.c8a (gS e)) a).elim,
  s9:=fun e _=>(gN (h.c8a (h.c9a (gS e))) a).elim,
  s10:=fun e=>(gN (h.c8a (h.c9a (h.c10a (gS e)))) a).elim,
  s11:=fun e=>(gN (h.c8a (h.c9a (h.c10a (h.c11a (gS e))))) a).elim,
  s12:=fun e=>(gN (h.c8a (h.c9a (h.c10a (h.c12a (gS e))))) a).elim,
  s13:=fun e=>(gN (h.c8a (h.c9a (h.c10a (h.c13a (gS e))))) a).elim,
  s14:=fun e=>(gN (h.c8a (h.c9a (h.c10a (h.c14a (gS e))))) a).elim,
  z:=fun e g=>by obtain⟨A,h1,h2,h3⟩:=h.z (gS e) (gT g);exact⟨A,h1,h2,by unfold Bk;rw[hg.block A h3.lt (fun s=>bK G h3 (by decide) (fV s).symm)];exact h3⟩,
  s16:=fun e=>(gN (h.c8a (h.c9a (h.c10a (h.c16a (gS e))))) a).elim,
  s17:=fun e=>(gN (h.c8a (h.c9a (h.c10a (h.c17a (gS e))))) a).elim,
  s18:=fun e=>(gN (h.c8a (h.c9a (h.c10a (h.c18a (gS e))))) a).elim,
  c3a:=fun e=>a9 B,
  c8a:=fun e=>a9 (h.c8a (gS e)),
  c8b:=fun e=>a9 (h.c8b (gS e)),
  c9a:=fun e=>a9 (h.c9a (gS e)),
  c10a:=fun e=>a9 (h.c10a (gS e)),
  c11a:=fun e=>a9 (h.c11a (gS e)),
  c12a:=fun e=>a9 (h.c12a (gS e)),
  c13a:=fun e=>a9 (h.c13a (gS e)),
  c14a:=fun e=>a9 (h.c14a (gS e)),
  c16a:=fun e=>a9 (h.c16a (gS e)),
  c16b:=fun e=>a9 (h.c16b (gS e)),
  c17a:=fun e=>a9 (h.c17a (gS e)),
  c18a:=fun e=>a9 (h.c18a (gS e)) }
theorem dJ.bl (h0:dJ N b SV FV TV GV f E M s' m' L W t15 t16 t17 t85 t86 t87 t88 t89 t90 t91 t92 t93 t94 t95 t96 t97 t98 t99)(_hLs:L.size=19)(a:L.getD 7 true=false)(A:Below W.heap.size W W')(B:N<=W.heap.size)(s:aW W' W.heap.size u E):dJ N b SV FV TV GV f E M s' m' (L.setIfInBounds 7 true) W' t15 t16 t17 t85 t86 t87 t88 t89 t90 t91 t92 u t94 t95 t96 t97 t98 t99:=by
 have h:=h0.keep A;exact {
  s0:=fun e=>h.s0 (gS e),
  s2:=fun e=>h.s2 (gS e),
  s4:=fun e=>h.s4 (gS e),
  s5:=fun e=>h.s5 (gS e),
  s6:=fun e=>h.s6 (gS e),
  s1:=fun e g=>by obtain⟨q,h1,h2,h3,_⟩:=h0.s1 (gS e) (gT g);exact⟨q,h1,h2,h3.keep A,fun _ p D=>by have:=oB s p D;have:=h3.lt;omega⟩,
  s3:=fun e g=>h.s3 (gS e) (gT g),
  s7:=fun _ _=>bQ s B,
  s8:=fun e _=>(gN (h.c8b (gS e)) a).elim,
  s9:=fun e _=>(gN (h.c8b (h.c9a (gS e))) a).elim,
  s10:=fun e=>(gN (h.c8b (h.c9a (h.c10a (gS e)))) a).elim,
  s11:=fun e=>(gN (h.c8b (h.c9a (h.c10a (h.c11a (gS e))))) a).elim,
  s12:=fun e=>(gN (h.c8b (h.c9a (h.c10a (h.c12a (gS e))))) a).elim,
  s13:=fun e=>(gN (h.c8b (h.c9a (h.c10a (h.c13a (gS e))))) a).elim,
  s14:=fun e=>(gN (h.c8b (h.c9a (h.c10a (h.c14a (gS e))))) a).elim,
  z:=fun e g=>h.z (gS e) (gT g),
  s16:=fun e=>(gN (h.c8b (h.c9a (h.c10a (h.c16a (gS e))))) a).elim,
  s17:=fun e=>(gN (h.c8b (h.c9a (h.c10a (h.c17a (gS e))))) a).elim,
  s18:=fun e=>(gN (h.c8b (h.c9a (h.c10a (h.c18a (gS e))))) a).elim,
  c3a:=fun e=>a9 (h.c3a (gS e)),
  c8a:=fun e=>a9 (h.c8a (gS e)),
  c8b:=fun e=>a9 (h.c8b (gS e)),
  c9a:=fun e=>a9 (h.c9a (gS e)),
  c10a:=fun e=>a9 (h.c10a (gS e)),
  c11a:=fun e=>a9 (h.c11a (gS e)),
  c12a:=fun e=>a9 (h.c12a (gS e)),
  c13a:=fun e=>a9 (h.c13a (gS e)),
  c14a:=fun e=>a9 (h.c14a (gS e)),
  c16a:=fun e=>a9 (h.c16a (gS e)),
  c16b:=fun e=>a9 (h.c16b (gS e)),
  c17a:=fun e=>a9 (h.c17a (gS e)),
  c18a:=fun e=>a9 (h.c18a (gS e)) }
theorem dJ.bj (h0:dJ N b SV FV TV GV f E M s' m' L W t15 t16 t17 t85 t86 t87 t88 t89 t90 t91 t92 t93 t94 t95 t96 t97 t98 t99)(s:L.getD 3 false=true)(B:L.getD 7 false=true)(H:L.size=19)(a:L.getD 8 true=false)(ho:aW W N t89 f)(hg:W.grownBy W' t89.ownBlock)(D:aW W' N u (f++E)):dJ N b SV FV TV GV f E M s' m' (L.setIfInBounds 8 true) W' t15 t16 t17 t85 t86 t87 t88 t89 t90 t91 t92 t93 u t95 t96 t97 t98 t99:=by
 have h:=h0;exact {
  s0:=fun e=>h.s0 (gS e),
  s2:=fun e=>h.s2 (gS e),
  s4:=fun e=>h.s4 (gS e),
  s5:=fun e=>h.s5 (gS e),
  s6:=fun e=>h.s6 (gS e),
  s1:=fun _ g=>(gN s (gT g)).elim,
  s3:=fun _ g=>absurd g (by rw[gH (by omega)];decide),
  s7:=fun _ g=>absurd g (by rw[gH (by omega)];decide),
  s8:=fun _ _=>D,
  s9:=fun e _=>(gN (h.c9a (gS e)) a).elim,
  s10:=fun e=>(gN (h.c9a (h.c10a (gS e))) a).elim,
  s11:=fun e=>(gN (h.c9a (h.c10a (h.c11a (gS e)))) a).elim,
  s12:=fun e=>(gN (h.c9a (h.c10a (h.c12a (gS e)))) a).elim,
  s13:=fun e=>(gN (h.c9a (h.c10a (h.c13a (gS e)))) a).elim,
  s14:=fun e=>(gN (h.c9a (h.c10a (h.c14a (gS e)))) a).elim,
  z:=fun e g=>by obtain⟨A,h1,h2,h3⟩:=h.z (gS e) (gT g);exact⟨A,h1,h2,by unfold Bk;rw[hg.block A h3.lt (fun G=>by obtain⟨c,F⟩:=mZ ho G.symm;exact bK F h3 (by decide) rfl)];exact h3⟩,
  s16:=fun e=>(gN (h.c9a (h.c10a (h.c16a (gS e)))) a).elim,
  s17:=fun e=>(gN (h.c9a (h.c10a (h.c17a (gS e)))) a).elim,
  s18:=fun e=>(gN (h.c9a (h.c10a (h.c18a (gS e)))) a).elim,
  c3a:=fun e=>a9 (h.c3a (gS e)),
  c8a:=fun e=>a9 s,
  c8b:=fun e=>a9 B,
  c9a:=fun e=>a9 (h.c9a (gS e)),
  c10a:=fun e=>a9 (h.c10a (gS e)),
  c11a:=fun e=>a9 (h.c11a (gS e)),
  c12a:=fun e=>a9 (h.c12a (gS e)),
  c13a:=fun e=>a9 (h.c13a (gS e)),
  c14a:=fun e=>a9 (h.c14a (gS e)),
  c16a:=fun e=>a9 (h.c16a (gS e)),
  c16b:=fun e=>a9 (h.c16b (gS e)),
  c17a:=fun e=>a9 (h.c17a (gS e)),
  c18a:=fun e=>a9 (h.c18a (gS e)) }
theorem dJ.cE (h0:dJ N b SV FV TV GV f E M s' m' L W t15 t16 t17 t85 t86 t87 t88 t89 t90 t91 t92 t93 t94 t95 t96 t97 t98 t99)(s:L.getD 8 false=true)(_hLs:L.size=19)(a:L.getD 9 true=false)(B:Below W.heap.size W W')(D:N<=W.heap.size)(A:aW W' W.heap.size u M):dJ N b SV FV TV GV f E M s' m' (L.setIfInBounds 9 true) W' t15 t16 t17 t85 t86 t87 t88 t89 t90 t91 t92 t93 t94 u t96 t97 t98 t99:=by
 have h:=h0.keep B;exact {
  s0:=fun e=>h.s0 (gS e),
  s2:=fun e=>h.s2 (gS e),
  s4:=fun e=>h.s4 (gS e),
  s5:=fun e=>h.s5 (gS e),
  s6:=fun e=>h.s6 (gS e),
  s1:=fun e g=>by obtain⟨q,h1,h2,h3,h4⟩:=h.s1 (gS e) (gT g);exact⟨q,h1,h2,h3,fun e=>h4 (gS e)⟩,
  s3:=fun e g=>h.s3 (gS e) (gT g),
  s7:=fun e g=>h.s7 (gS e) (gT g),
  s8:=fun e g=>h.s8 (gS e) (gT g),
  s9:=fun _ _=>bQ A D,
  s10:=fun e=>(gN (h.c10a (gS e)) a).elim,
  s11:=fun e=>(gN (h.c10a (h.c11a (gS e))) a).elim,
  s12:=fun e=>(gN (h.c10a (h.c12a (gS e))) a).elim,
  s13:=fun e=>(gN (h.c10a (h.c13a (gS e))) a).elim,
  s14:=fun e=>(gN (h.c10a (h.c14a (gS e))) a).elim,
  z:=fun e g=>h.z (gS e) (gT g),
  s16:=fun e=>(gN (h.c10a (h.c16a (gS e))) a).elim,
  s17:=fun e=>(gN (h.c10a (h.c17a (gS e))) a).elim,
  s18:=fun e=>(gN (h.c10a (h.c18a (gS e))) a).elim,
  c3a:=fun e=>a9 (h.c3a (gS e)),
  c8a:=fun e=>a9 (h.c8a (gS e)),
  c8b:=fun e=>a9 (h.c8b (gS e)),
  c9a:=fun e=>a9 s,
  c10a:=fun e=>a9 (h.c10a (gS e)),
  c11a:=fun e=>a9 (h.c11a (gS e)),
  c12a:=fun e=>a9 (h.c12a (gS e)),
  c13a:=fun e=>a9 (h.c13a (gS e)),
  c14a:=fun e=>a9 (h.c14a (gS e)),
  c16a:=fun e=>a9 (h.c16a (gS e)),
  c16b:=fun e=>a9 (h.c16b (gS e)),
  c17a:=fun e=>a9 (h.c17a (gS e)),
  c18a:=fun e=>a9 (h.c18a (gS e)) }
theorem dJ.bC (h0:dJ N b SV FV TV GV f E M s' m' L W t15 t16 t17 t85 t86 t87 t88 t89 t90 t91 t92 t93 t94 t95 t96 t97 t98 t99)(A:L.getD 9 false=true)(T:L.size=19)(a:L.getD 10 true=false)(R:Below W.heap.size W W')(S:N<=W.heap.size)(O:u=.tuple #[x,m,.bool true])(ha:p6 W.heap.size s' m' W' (fun z=>W.heap.size+2<=z) x m):dJ N b SV FV TV GV f E M s' m' (L.setIfInBounds 10 true) W' t15 t16 t17 t85 t86 t87 t88 t89 t90 t91 t92 t93 t94 t95 u t97 t98 t99:=by
 have h:=h0.keep R;exact {
  s0:=fun e=>h.s0 (gS e),
  s2:=fun e=>h.s2 (gS e),
  s4:=fun e=>h.s4 (gS e),
  s5:=fun e=>h.s5 (gS e),
  s6:=fun e=>h.s6 (gS e),
  s1:=fun e g=>by obtain⟨q,h1,h2,h3,h4⟩:=h.s1 (gS e) (gT g);exact⟨q,h1,h2,h3,fun e=>h4 (gS e)⟩,
  s3:=fun e g=>h.s3 (gS e) (gT g),
  s7:=fun e g=>h.s7 (gS e) (gT g),
  s8:=fun _ g=>absurd g (by rw[gH (by omega)];decide),
  s9:=fun _ g=>absurd g (by rw[gH (by omega)];decide),
  s10:=fun _=>⟨x,m,O,by obtain⟨D,F,G,H,h1,h2,h3⟩:=ha;exact⟨D,F,G,H,h1,h2.wk (fun z U _=>⟨by omega,fun s e=>by obtain⟨q,J,_,I⟩:=h0.z (gS s) (gF (by omega) fun B=>gN (h0.c16a B) a);rw[J]at e;have hq:=congrArg Addr.block (fV (fD.pointer.inj e));have:=I.lt;simp at hq;omega⟩),bQ h3 S⟩⟩,
  s11:=fun e=>(gN (h.c11a (gS e)) a).elim,
  s12:=fun e=>(gN (h.c12a (gS e)) a).elim,
  s13:=fun e=>(gN (h.c13a (gS e)) a).elim,
  s14:=fun e=>(gN (h.c14a (gS e)) a).elim,
  z:=fun e g=>h.z (gS e) (gT g),
  s16:=fun e=>(gN (h.c16a (gS e)) a).elim,
  s17:=fun e=>(gN (h.c17a (gS e)) a).elim,
  s18:=fun e=>(gN (h.c18a (gS e)) a).elim,
  c3a:=fun e=>a9 (h.c3a (gS e)),
  c8a:=fun e=>a9 (h.c8a (gS e)),
  c8b:=fun e=>a9 (h.c8b (gS e)),
  c9a:=fun e=>a9 (h.c9a (gS e)),
  c10a:=fun e=>a9 A,
  c11a:=fun e=>a9 (h.c11a (gS e)),
  c12a:=fun e=>a9 (h.c12a (gS e)),
  c13a:=fun e=>a9 (h.c13a (gS e)),
  c14a:=fun e=>a9 (h.c14a (gS e)),
  c16a:=fun e=>a9 (h.c16a (gS e)),
  c16b:=fun e=>a9 (h.c16b (gS e)),
  c17a:=fun e=>a9 (h.c17a (gS e)),
  c18a:=fun e=>a9 (h.c18a (gS e)) }
theorem dJ.az (h0:dJ N b SV FV TV GV f E M s' m' L W t15 t16 t17 t85 t86 t87 t88 t89 t90 t91 t92 t93 t94 t95 t96 t97 t98 t99)(s:L.getD 10 false=true)(A:u=t96):dJ N b SV FV TV GV f E M s' m' (L.setIfInBounds 11 true) W t15 t16 t17 u t86 t87 t88 t89 t90 t91 t92 t93 t94 t95 t96 t97 t98 t99:=by
 have h:=h0;exact {
  s0:=fun e=>h.s0 (gS e),
  s2:=fun e=>h.s2 (gS e),
  s4:=fun e=>h.s4 (gS e),
  s5:=fun e=>h.s5 (gS e),
  s6:=fun e=>h.s6 (gS e),
  s1:=fun e a=>by obtain⟨q,h1,h2,h3,h4⟩:=h.s1 (gS e) (gT a);exact⟨q,h1,h2,h3,fun e=>h4 (gS e)⟩,
  s3:=fun e a=>h.s3 (gS e) (gT a),
  s7:=fun e a=>h.s7 (gS e) (gT a),
  s8:=fun e a=>h.s8 (gS e) (gT a),
  s9:=fun e a=>h.s9 (gS e) (gT a),
  s10:=fun e=>by obtain⟨x,m,h1,h2⟩:=h.s10 (gS e);exact⟨x,m,h1,h2.wk fun z g _=>⟨g.1,fun e=>g.2 (gS e)⟩⟩,
  s11:=fun _=>A,
  s12:=fun e=>h.s12 (gS e),
  s13:=fun e=>h.s13 (gS e),
  s14:=fun e=>h.s14 (gS e),
  z:=fun e a=>h.z (gS e) (gT a),
  s16:=fun e=>h.s16 (gS e),
  s17:=fun e=>h.s17 (gS e),
  s18:=fun e=>h.s18 (gS e),
  c3a:=fun e=>a9 (h.c3a (gS e)),
  c8a:=fun e=>a9 (h.c8a (gS e)),
  c8b:=fun e=>a9 (h.c8b (gS e)),
  c9a:=fun e=>a9 (h.c9a (gS e)),
  c10a:=fun e=>a9 (h.c10a (gS e)),
  c11a:=fun e=>a9 s,
  c12a:=fun e=>a9 (h.c12a (gS e)),
  c13a:=fun e=>a9 (h.c13a (gS e)),
  c14a:=fun e=>a9 (h.c14a (gS e)),
  c16a:=fun e=>a9 (h.c16a (gS e)),
  c16b:=fun e=>a9 (h.c16b (gS e)),
  c17a:=fun e=>a9 (h.c17a (gS e)),
  c18a:=fun e=>a9 (h.c18a (gS e)) }
theorem dJ.aw (h0:dJ N b SV FV TV GV f E M s' m' L W t15 t16 t17 t85 t86 t87 t88 t89 t90 t91 t92 t93 t94 t95 t96 t97 t98 t99)(s:L.getD 10 false=true)(A:∃x m:fD,t96=.tuple #[x,m,.bool true]/\u=x):dJ N b SV FV TV GV f E M s' m' (L.setIfInBounds 12 true) W t15 t16 t17 t85 t86 t87 t88 t89 t90 t91 t92 t93 t94 t95 t96 u t98 t99:=by
 have h:=h0;exact {
  s0:=fun e=>h.s0 (gS e),
  s2:=fun e=>h.s2 (gS e),
  s4:=fun e=>h.s4 (gS e),
  s5:=fun e=>h.s5 (gS e),
  s6:=fun e=>h.s6 (gS e),
  s1:=fun e a=>by obtain⟨q,h1,h2,h3,h4⟩:=h.s1 (gS e) (gT a);exact⟨q,h1,h2,h3,fun e=>h4 (gS e)⟩,
  s3:=fun e a=>h.s3 (gS e) (gT a),
  s7:=fun e a=>h.s7 (gS e) (gT a),
  s8:=fun e a=>h.s8 (gS e) (gT a),
  s9:=fun e a=>h.s9 (gS e) (gT a),
  s10:=fun e=>by obtain⟨x,m,h1,h2⟩:=h.s10 (gS e);exact⟨x,m,h1,h2.wk fun z g _=>⟨g.1,fun e=>g.2 (gS e)⟩⟩,
  s11:=fun e=>h.s11 (gS e),
  s12:=fun _=>A,
  s13:=fun e=>h.s13 (gS e),
  s14:=fun e=>h.s14 (gS e),
  z:=fun e a=>h.z (gS e) (gT a),
  s16:=fun e=>h.s16 (gS e),
  s17:=fun e=>h.s17 (gS e),
  s18:=fun e=>h.s18 (gS e),
  c3a:=fun e=>a9 (h.c3a (gS e)),
  c8a:=fun e=>a9 (h.c8a (gS e)),
  c8b:=fun e=>a9 (h.c8b (gS e)),
  c9a:=fun e=>a9 (h.c9a (gS e)),
  c10a:=fun e=>a9 (h.c10a (gS e)),
  c11a:=fun e=>a9 (h.c11a (gS e)),
  c12a:=fun e=>a9 s,
  c13a:=fun e=>a9 (h.c13a (gS e)),
  c14a:=fun e=>a9 (h.c14a (gS e)),
  c16a:=fun e=>a9 (h.c16a (gS e)),
  c16b:=fun e=>a9 (h.c16b (gS e)),
  c17a:=fun e=>a9 (h.c17a (gS e)),
  c18a:=fun e=>a9 (h.c18a (gS e)) }
theorem dJ.bu (h0:dJ N b SV FV TV GV f E M s' m' L W t15 t16 t17 t85 t86 t87 t88 t89 t90 t91 t92 t93 t94 t95 t96 t97 t98 t99)(s:L.getD 10 false=true)(A:∃x m:fD,t96=.tuple #[x,m,.bool true]/\u=m):dJ N b SV FV TV GV f E M s' m' (L.setIfInBounds 13 true) W t15 t16 t17 t85 t86 t87 t88 t89 t90 t91 t92 t93 t94 t95 t96 t97 u t99:=by
 have h:=h0;exact {
  s0:=fun e=>h.s0 (gS e),
  s2:=fun e=>h.s2 (gS e),
  s4:=fun e=>h.s4 (gS e),
  s5:=fun e=>h.s5 (gS e),
  s6:=fun e=>h.s6 (gS e),
  s1:=fun e a=>by obtain⟨q,h1,h2,h3,h4⟩:=h.s1 (gS e) (gT a);exact⟨q,h1,h2,h3,fun e=>h4 (gS e)⟩,
  s3:=fun e a=>h.s3 (gS e) (gT a),
  s7:=fun e a=>h.s7 (gS e) (gT a),
  s8:=fun e a=>h.s8 (gS e) (gT a),
  s9:=fun e a=>h.s9 (gS e) (gT a),
  s10:=fun e=>by obtain⟨x,m,h1,h2⟩:=h.s10 (gS e);exact⟨x,m,h1,h2.wk fun z g _=>⟨g.1,fun e=>g.2 (gS e)⟩⟩,
  s11:=fun e=>h.s11 (gS e),
  s12:=fun e=>h.s12 (gS e),
  s13:=fun _=>A,
  s14:=fun e=>h.s14 (gS e),
  z:=fun e a=>h.z (gS e) (gT a),
  s16:=fun e=>h.s16 (gS e),
  s17:=fun e=>h.s17 (gS e),
  s18:=fun e=>h.s18 (gS e),
  c3a:=fun e=>a9 (h.c3a (gS e)),
  c8a:=fun e=>a9 (h.c8a (gS e)),
  c8b:=fun e=>a9 (h.c8b (gS e)),
  c9a:=fun e=>a9 (h.c9a (gS e)),
  c10a:=fun e=>a9 (h.c10a (gS e)),
  c11a:=fun e=>a9 (h.c11a (gS e)),
  c12a:=fun e=>a9 (h.c12a (gS e)),
  c13a:=fun e=>a9 s,
  c14a:=fun e=>a9 (h.c14a (gS e)),
  c16a:=fun e=>a9 (h.c16a (gS e)),
  c16b:=fun e=>a9 (h.c16b (gS e)),
  c17a:=fun e=>a9 (h.c17a (gS e)),
  c18a:=fun e=>a9 (h.c18a (gS e)) }
theorem dJ.cG (h0:dJ N b SV FV TV GV f E M s' m' L W t15 t16 t17 t85 t86 t87 t88 t89 t90 t91 t92 t93 t94 t95 t96 t97 t98 t99)(s:L.getD 10 false=true)(A:u=.bool true):dJ N b SV FV TV GV f E M s' m' (L.setIfInBounds 14 true) W t15 t16 t17 t85 t86 t87 t88 t89 t90 t91 t92 t93 t94 t95 t96 t97 t98 u:=by
 have h:=h0;exact {
  s0:=fun e=>h.s0 (gS e),
  s2:=fun e=>h.s2 (gS e),
  s4:=fun e=>h.s4 (gS e),
  s5:=fun e=>h.s5 (gS e),
  s6:=fun e=>h.s6 (gS e),
  s1:=fun e a=>by obtain⟨q,h1,h2,h3,h4⟩:=h.s1 (gS e) (gT a);exact⟨q,h1,h2,h3,fun e=>h4 (gS e)⟩,
  s3:=fun e a=>h.s3 (gS e) (gT a),
  s7:=fun e a=>h.s7 (gS e) (gT a),
  s8:=fun e a=>h.s8 (gS e) (gT a),
  s9:=fun e a=>h.s9 (gS e) (gT a),
  s10:=fun e=>by obtain⟨x,m,h1,h2⟩:=h.s10 (gS e);exact⟨x,m,h1,h2.wk fun z g _=>⟨g.1,fun e=>g.2 (gS e)⟩⟩,
  s11:=fun e=>h.s11 (gS e),
  s12:=fun e=>h.s12 (gS e),
  s13:=fun e=>h.s13 (gS e),
  s14:=fun _=>A,
  z:=fun e a=>h.z (gS e) (gT a),
  s16:=fun e=>h.s16 (gS e),
  s17:=fun e=>h.s17 (gS e),
  s18:=fun e=>h.s18 (gS e),
  c3a:=fun e=>a9 (h.c3a (gS e)),
  c8a:=fun e=>a9 (h.c8a (gS e)),
  c8b:=fun e=>a9 (h.c8b (gS e)),
  c9a:=fun e=>a9 (h.c9a (gS e)),
  c10a:=fun e=>a9 (h.c10a (gS e)),
  c11a:=fun e=>a9 (h.c11a (gS e)),
  c12a:=fun e=>a9 (h.c12a (gS e)),
  c13a:=fun e=>a9 (h.c13a (gS e)),
  c14a:=fun e=>a9 s,
  c16a:=fun e=>a9 (h.c16a (gS e)),
  c16b:=fun e=>a9 (h.c16b (gS e)),
  c17a:=fun e=>a9 (h.c17a (gS e)),
  c18a:=fun e=>a9 (h.c18a (gS e)) }
theorem dJ.cQ (h0:dJ N b SV FV TV GV f E M s' m' L W t15 t16 t17 t85 t86 t87 t88 t89 t90 t91 t92 t93 t94 t95 t96 t97 t98 t99)(_hLs:L.size=19)(s:L.getD 15 true=false)(g:Below W.heap.size W W')(B:N<=W.heap.size)(hq:Bk W' W.heap.size #[.int .i64 0,.int .i64 0,.slice none 0 0,.slice none 0 0,.slice none 0 0,.slice none 0 0] 30):dJ N b SV FV TV GV f E M s' m' (L.setIfInBounds 15 true) W' (.pointer (some ⟨W.heap.size,0,none⟩)) t16 t17 t85 t86 t87 t88 t89 t90 t91 t92 t93 t94 t95 t96 t97 t98 t99:=by
 have h:=h0.keep g;exact {
  s0:=fun e=>h.s0 (gS e),
  s2:=fun e=>h.s2 (gS e),
  s4:=fun e=>h.s4 (gS e),
  s5:=fun e=>h.s5 (gS e),
  s6:=fun e=>h.s6 (gS e),
  s1:=fun e a=>by obtain⟨q,h1,h2,h3,h4⟩:=h.s1 (gS e) (gT a);exact⟨q,h1,h2,h3,fun e=>h4 (gS e)⟩,
  s3:=fun e a=>h.s3 (gS e) (gT a),
  s7:=fun e a=>h.s7 (gS e) (gT a),
  s8:=fun e a=>h.s8 (gS e) (gT a),
  s9:=fun e a=>h.s9 (gS e) (gT a),
  s10:=fun e=>by obtain⟨x,m,h1,h2⟩:=h0.s10 (gS e);exact⟨x,m,h1,h2.move (fun z A hl=>⟨⟨A.1,fun _ e=>by have:=congrArg Addr.block (fV (fD.pointer.inj e));simp at this;omega⟩,g.block z hl⟩) g.size fun z D=>g.block z (oT h2.rows z D)⟩,
  s11:=fun e=>h.s11 (gS e),
  s12:=fun e=>h.s12 (gS e),
  s13:=fun e=>h.s13 (gS e),
  s14:=fun e=>h.s14 (gS e),
  z:=fun _ _=>⟨_,rfl,B,hq⟩,
  s16:=fun e=>(gN (h.c16b (gS e)) s).elim,
  s17:=fun e=>h.s17 (gS e),
  s18:=fun e=>h.s18 (gS e),
  c3a:=fun e=>a9 (h.c3a (gS e)),
  c8a:=fun e=>a9 (h.c8a (gS e)),
  c8b:=fun e=>a9 (h.c8b (gS e)),
  c9a:=fun e=>a9 (h.c9a (gS e)),
  c10a:=fun e=>a9 (h.c10a (gS e)),
  c11a:=fun e=>a9 (h.c11a (gS e)),
  c12a:=fun e=>a9 (h.c12a (gS e)),
  c13a:=fun e=>a9 (h.c13a (gS e)),
  c14a:=fun e=>a9 (h.c14a (gS e)),
  c16a:=fun e=>a9 (h.c16a (gS e)),
  c16b:=fun e=>a9 (h.c16b (gS e)),
  c17a:=fun e=>a9 (h.c17a (gS e)),
  c18a:=fun e=>a9 (h.c18a (gS e)) }
theorem dJ.cn (h0:dJ N b SV FV TV GV f E M s' m' L W t15 t16 t17 t85 t86 t87 t88 t89 t90 t91 t92 t93 t94 t95 t96 t97 t98 t99)(g:L.getD 10 false=true)(s:L.getD 15 false=true)(S:L.size=19){q:Nat}{A n2:Int}{e0 G F D:fD}(I:t15=.pointer (some ⟨q,0,none⟩))(R:t96=.tuple #[sv A n2 e0 G F D,m,.bool true])(hq:Bk W q #[.int .i64 0,.int .i64 0,.slice none 0 0,.slice none 0 0,.slice none 0 0,.slice none 0 0] 30)(hx:∀x,x≠q->W'.heap[x]?=W.heap[x]?)(H:W'.heap.size=W.heap.size)(J:Bk W' q #[.int .i64 A,.int .i64 n2,e0,G,F,D] 30):dJ N b SV FV TV GV f E M s' m' (L.setIfInBounds 16 true) W' t15 t16 t17 t85 t86 t87 t88 t89 t90 t91 t92 t93 t94 t95 t96 t97 t98 t99:=by
 have h:=h0;exact {
  s0:=fun e=>h.s0 (gS e),
  s2:=fun e=>h.s2 (gS e),
  s4:=fun e=>h.s4 (gS e),
  s5:=fun e=>h.s5 (gS e),
  s6:=fun e=>h.s6 (gS e),
  s1:=fun _ a=>(gN (h.c8a (h.c9a (h.c10a g))) (gT a)).elim,
  s3:=fun _ a=>(gN (h.c9a (h.c10a g)) (gT a)).elim,
  s7:=fun _ a=>(gN (h.c9a (h.c10a g)) (gT a)).elim,
  s8:=fun _ a=>(gN g (gT a)).elim,
  s9:=fun _ a=>(gN g (gT a)).elim,
  s10:=fun e=>by obtain⟨x,m,h1,h2⟩:=h0.s10 (gS e);exact⟨x,m,h1,h2.move (fun z B hl=>⟨⟨B.1,fun e=>B.2 (gS e)⟩,hx z fun e=>B.2 s (by rw[I,e])⟩) (Nat.le_of_eq H.symm) fun z O=>hx z (by obtain⟨d,hd⟩:=gP h2.rows O;exact bK hd hq (by decide))⟩,
  s11:=fun e=>h.s11 (gS e),
  s12:=fun e=>h.s12 (gS e),
  s13:=fun e=>h.s13 (gS e),
  s14:=fun e=>h.s14 (gS e),
  z:=fun _ a=>absurd a (by rw[gH (by omega)];decide),
  s16:=fun _=>⟨q,A,n2,e0,G,F,D,m,I,R,J⟩,
  s17:=fun e=>h.s17 (gS e),
  s18:=fun e=>h.s18 (gS e),
  c3a:=fun e=>a9 (h.c3a (gS e)),
  c8a:=fun e=>a9 (h.c8a (gS e)),
  c8b:=fun e=>a9 (h.c8b (gS e)),
  c9a:=fun e=>a9 (h.c9a (gS e)),
  c10a:=fun e=>a9 (h.c10a (gS e)),
  c11a:=fun e=>a9 (h.c11a (gS e)),
  c12a:=fun e=>a9 (h.c12a (gS e)),
  c13a:=fun e=>a9 (h.c13a (gS e)),
  c14a:=fun e=>a9 (h.c14a (gS e)),
  c16a:=fun e=>a9 g,
  c16b:=fun e=>a9 s,
  c17a:=fun e=>a9 (h.c17a (gS e)),
  c18a:=fun e=>a9 (h.c18a (gS e)) }
theorem dJ.ch (h0:dJ N b SV FV TV GV f E M s' m' L W t15 t16 t17 t85 t86 t87 t88 t89 t90 t91 t92 t93 t94 t95 t96 t97 t98 t99)(s:L.getD 10 false=true)(A:∃x m:fD,t96=.tuple #[x,m,.bool true]/\u=m):dJ N b SV FV TV GV f E M s' m' (L.setIfInBounds 17 true) W t15 u t17 t85 t86 t87 t88 t89 t90 t91 t92 t93 t94 t95 t96 t97 t98 t99:=by
 have h:=h0;exact {
  s0:=fun e=>h.s0 (gS e),
  s2:=fun e=>h.s2 (gS e),
  s4:=fun e=>h.s4 (gS e),
  s5:=fun e=>h.s5 (gS e),
  s6:=fun e=>h.s6 (gS e),
  s1:=fun e a=>by obtain⟨q,h1,h2,h3,h4⟩:=h.s1 (gS e) (gT a);exact⟨q,h1,h2,h3,fun e=>h4 (gS e)⟩,
  s3:=fun e a=>h.s3 (gS e) (gT a),
  s7:=fun e a=>h.s7 (gS e) (gT a),
  s8:=fun e a=>h.s8 (gS e) (gT a),
  s9:=fun e a=>h.s9 (gS e) (gT a),
  s10:=fun e=>by obtain⟨x,m,h1,h2⟩:=h.s10 (gS e);exact⟨x,m,h1,h2.wk fun z g _=>⟨g.1,fun e=>g.2 (gS e)⟩⟩,
  s11:=fun e=>h.s11 (gS e),
  s12:=fun e=>h.s12 (gS e),
  s13:=fun e=>h.s13 (gS e),
  s14:=fun e=>h.s14 (gS e),
  z:=fun e a=>h.z (gS e) (gT a),
  s16:=fun e=>h.s16 (gS e),
  s17:=fun _=>A,
  s18:=fun e=>h.s18 (gS e),
  c3a:=fun e=>a9 (h.c3a (gS e)),
  c8a:=fun e=>a9 (h.c8a (gS e)),
  c8b:=fun e=>a9 (h.c8b (gS e)),
  c9a:=fun e=>a9 (h.c9a (gS e)),
  c10a:=fun e=>a9 (h.c10a (gS e)),
  c11a:=fun e=>a9 (h.c11a (gS e)),
  c12a:=fun e=>a9 (h.c12a (gS e)),
  c13a:=fun e=>a9 (h.c13a (gS e)),
  c14a:=fun e=>a9 (h.c14a (gS e)),
  c16a:=fun e=>a9 (h.c16a (gS e)),
  c16b:=fun e=>a9 (h.c16b (gS e)),
  c17a:=fun e=>a9 s,
  c18a:=fun e=>a9 (h.c18a (gS e)) }
theorem dJ.cg (h0:dJ N b SV FV TV GV f E M s' m' L W t15 t16 t17 t85 t86 t87 t88 t89 t90 t91 t92 t93 t94 t95 t96 t97 t98 t99)(s:L.getD 10 false=true)(A:u=.bool true):dJ N b SV FV TV GV f E M s' m' (L.setIfInBounds 18 true) W t15 t16 u t85 t86 t87 t88 t89 t90 t91 t92 t93 t94 t95 t96 t97 t98 t99:=by
 have h:=h0;exact {
  s0:=fun e=>h.s0 (gS e),
  s2:=fun e=>h.s2 (gS e),
  s4:=fun e=>h.s4 (gS e),
  s5:=fun e=>h.s5 (gS e),
  s6:=fun e=>h.s6 (gS e),
  s1:=fun e a=>by obtain⟨q,h1,h2,h3,h4⟩:=h.s1 (gS e) (gT a);exact⟨q,h1,h2,h3,fun e=>h4 (gS e)⟩,
  s3:=fun e a=>h.s3 (gS e) (gT a),
  s7:=fun e a=>h.s7 (gS e) (gT a),
  s8:=fun e a=>h.s8 (gS e) (gT a),
  s9:=fun e a=>h.s9 (gS e) (gT a),
  s10:=fun e=>by obtain⟨x,m,h1,h2⟩:=h.s10 (gS e);exact⟨x,m,h1,h2.wk fun z g _=>⟨g.1,fun e=>g.2 (gS e)⟩⟩,
  s11:=fun e=>h.s11 (gS e),
  s12:=fun e=>h.s12 (gS e),
  s13:=fun e=>h.s13 (gS e),
  s14:=fun e=>h.s14 (gS e),
  z:=fun e a=>h.z (gS e) (gT a),
  s16:=fun e=>h.s16 (gS e),
  s17:=fun e=>h.s17 (gS e),
  s18:=fun _=>A,
  c3a:=fun e=>a9 (h.c3a (gS e)),
  c8a:=fun e=>a9 (h.c8a (gS e)),
  c8b:=fun e=>a9 (h.c8b (gS e)),
  c9a:=fun e=>a9 (h.c9a (gS e)),
  c10a:=fun e=>a9 (h.c10a (gS e)),
  c11a:=fun e=>a9 (h.c11a (gS e)),
  c12a:=fun e=>a9 (h.c12a (gS e)),
  c13a:=fun e=>a9 (h.c13a (gS e)),
  c14a:=fun e=>a9 (h.c14a (gS e)),
  c16a:=fun e=>a9 (h.c16a (gS e)),
  c16b:=fun e=>a9 (h.c16b (gS e)),
  c17a:=fun e=>a9 (h.c17a (gS e)),
  c18a:=fun e=>a9 s }
theorem dJ.fin (h:dJ N b SV FV TV GV f E M s' m' L W t15 t16 t17 t85 t86 t87 t88 t89 t90 t91 t92 t93 t94 t95 t96 t97 t98 t99)(a:∀j,j<19->L.getD j false=true):∃(q:Nat)(A B D F m:fD),t15=.pointer (some ⟨q,0,none⟩)/\t16=m/\t17=.bool true/\Bk W q (sc s'.t.k s'.t.n A B D F) 30/\bY W A B D F s'/\aD W N m m':=by
 obtain⟨x,m,O,A,B,D,F,rfl,H,hm⟩:=h.s10 (a 10 (by omega));obtain⟨q,V,n2,e0,e1,Z,Y,U,J,s,R⟩:=h.s16 (a 16 (by omega));obtain⟨S,T,g,I⟩:=h.s17 (a 17 (by omega));have G:=h.s18 (a 18 (by omega));rw[O]at s g;simp only[fD.tuple.injEq,Array.mk.injEq,List.cons.injEq,and_true,true_and,fD.agg.injEq,fD.int.injEq]at s g;obtain⟨⟨rfl,rfl,rfl,rfl,rfl,rfl⟩,rfl⟩:=s;obtain⟨rfl,rfl⟩:=g;exact⟨q,_,_,_,_,_,J,I,G,R,H.ses,hm⟩
end
def AU (N b:Nat)(SV FV TV GV:fD)(f E M:LI)(s':SS)(m':List Rw)(y0 y1 y2 y3 y4 y7 y8 y9 y10 y11 y12 y13:fD)(W0:fH)(L:Array Bool)(a:Act)(W:fH):Prop:=
 L.size=19/\Below W0.heap.size W0 W/\∃z18 z19 z20 z21 z22 z23 z24 z25 z26 z27 z28 z29 z30 z31 z32 z33 z34 z35 z36 z37 z38 z39 z40 z41 z42 z43 z44 z45 z46 z47 z48 z49 z50 z51 z52 z53 z54 z55 z56 z57 z58 z59 z60 z61 z62 z63 z64 z65 z66 z67 z68 z69 z70 z71 z72 z73 z74 z75 z76 z77 z78 z79 z80 z81 z82 z83 z84 z100 z101 z102 z103 z104 z105 z106 z107 z108 z109 z110 z111 z112 z113 z114 z115 z116 z117 z118 z119 z120 z121 z122 t15 t16 t17 t85 t86 t87 t88 t89 t90 t91 t92 t93 t94 t95 t96 t97 t98 t99:fD,
  a={ tmps:=#[y0,y1,y2,y3,y4,.pointer (some ⟨b,0,none⟩),TV,y7,y8,y9,y10,y11,y12,y13,GV,t15,t16,t17,z18,z19,z20,z21,z22,z23,z24,z25,z26,z27,z28,z29,z30,z31,z32,z33,z34,z35,z36,z37,z38,z39,z40,z41,z42,z43,z44,z45,z46,z47,z48,z49,z50,z51,z52,z53,z54,z55,z56,z57,z58,z59,z60,z61,z62,z63,z64,z65,z66,z67,z68,z69,z70,z71,z72,z73,z74,z75,z76,z77,z78,z79,z80,z81,z82,z83,z84,t85,t86,t87,t88,t89,t90,t91,t92,t93,t94,t95,t96,t97,t98,t99,z100,z101,z102,z103,z104,z105,z106,z107,z108,z109,z110,z111,z112,z113,z114,z115,z116,z117,z118,z119,z120,z121,z122],defers:=[] }/\dJ N b SV FV TV GV f E M s' m' L W t15 t16 t17 t85 t86 t87 t88 t89 t90 t91 t92 t93 t94 t95 t96 t97 t98 t99
theorem AU.elim {b:Nat}{SV FV TV GV:fD}{f E M:LI}{s':SS}{m':List Rw}{y0 y1 y2 y3 y4 y7 y8 y9 e6 e5 e4 e3:fD}{W0:fH}{L:Array Bool}{a:Act}{P:Prop}(h:AU N b SV FV TV GV f E M s' m' y0 y1 y2 y3 y4 y7 y8 y9 e6 e5 e4 e3 W0 L a W)(k:∀e2 e1 d5 d4 d3 d0 c9 c4 c0 b9 b8 b7 b6 b5 b4 b3 b2 b1 b0 a8 a7 a6 a5 a4 a3 a2 a1 a0 w9 w8 w7 w6 w5 w4 w3 w2 v9 v8 v7 v6 v5 v4 v3 v2 v1 v0 u8 u4 u0 z9 z8 z7 z6 z5 z4 z3 z2 z1 z0 y6 y5 x9 x8 x7 x6 x5 x4 x3 x2 x1 x0 h9 Z Y V U T S R O J I H G F D B A s g t15 t16 t17 t85 t86 t87 t88 t89 t90 t91 t92 t93 t94 t95 t96 t97 t98 t99:fD,a={ tmps:=#[y0,y1,y2,y3,y4,.pointer (some ⟨b,0,none⟩),TV,y7,y8,y9,e6,e5,e4,e3,GV,t15,t16,t17,e2,e1,d5,d4,d3,d0,c9,c4,c0,b9,b8,b7,b6,b5,b4,b3,b2,b1,b0,a8,a7,a6,a5,a4,a3,a2,a1,a0,w9,w8,w7,w6,w5,w4,w3,w2,v9,v8,v7,v6,v5,v4,v3,v2,v1,v0,u8,u4,u0,z9,z8,z7,z6,z5,z4,z3,z2,z1,z0,y6,y5,x9,x8,x7,x6,x5,x4,t85,t86,t87,t88,t89,t90,t91,t92,t93,t94,t95,t96,t97,t98,t99,x3,x2,x1,x0,h9,Z,Y,V,U,T,S,R,O,J,I,H,G,F,D,B,A,s,g],defers:=[] }->dJ N b SV FV TV GV f E M s' m' L W t15 t16 t17 t85 t86 t87 t88 t89 t90 t91 t92 t93 t94 t95 t96 t97 t98 t99->P):P:=
 h.2.2.elim fun e2 h=>h.elim fun e1 h=>h.elim fun d5 h=>h.elim fun d4 h=>h.elim fun d3 h=>h.elim fun d0 h=>h.elim fun c9 h=>h.elim fun c4 h=>h.elim fun c0 h=>h.elim fun b9 h=>h.elim fun b8 h=>h.elim fun b7 h=>h.elim fun b6 h=>h.elim fun b5 h=>h.elim fun b4 h=>h.elim fun b3 h=>h.elim fun b2 h=>h.elim fun b1 h=>h.elim fun b0 h=>h.elim fun a8 h=>h.elim fun a7 h=>h.elim fun a6 h=>h.elim fun a5 h=>h.elim fun a4 h=>h.elim fun a3 h=>h.elim fun a2 h=>h.elim fun a1 h=>h.elim fun a0 h=>h.elim fun w9 h=>h.elim fun w8 h=>h.elim fun w7 h=>h.elim fun w6 h=>h.elim fun w5 h=>h.elim fun w4 h=>h.elim fun w3 h=>h.elim fun w2 h=>h.elim fun v9 h=>h.elim fun v8 h=>h.elim fun v7 h=>h.elim fun v6 h=>h.elim fun v5 h=>h.elim fun v4 h=>h.elim fun v3 h=>h.elim fun v2 h=>h.elim fun v1 h=>h.elim fun v0 h=>h.elim fun u8 h=>h.elim fun u4 h=>h.elim fun u0 h=>h.elim fun z9 h=>h.elim fun z8 h=>h.elim fun z7 h=>h.elim fun z6 h=>h.elim fun z5 h=>h.elim fun z4 h=>h.elim fun z3 h=>h.elim fun z2 h=>h.elim fun z1 h=>h.elim fun z0 h=>h.elim fun y6 h=>h.elim fun y5 h=>h.elim fun x9 h=>h.elim fun x8 h=>h.elim fun x7 h=>h.elim fun x6 h=>h.elim fun x5 h=>h.elim fun x4 h=>h.elim fun x3 h=>h.elim fun x2 h=>h.elim fun x1 h=>h.elim fun x0 h=>h.elim fun h9 h=>h.elim fun Z h=>h.elim fun Y h=>h.elim fun V h=>h.elim fun U h=>h.elim fun T h=>h.elim fun S h=>h.elim fun R h=>h.elim fun O h=>h.elim fun J h=>h.elim fun I h=>h.elim fun H h=>h.elim fun G h=>h.elim fun F h=>h.elim fun D h=>h.elim fun B h=>h.elim fun A h=>h.elim fun s h=>h.elim fun g h=>h.elim fun t15 h=>h.elim fun t16 h=>h.elim fun t17 h=>h.elim fun t85 h=>h.elim fun t86 h=>h.elim fun t87 h=>h.elim fun t88 h=>h.elim fun t89 h=>h.elim fun t90 h=>h.elim fun t91 h=>h.elim fun t92 h=>h.elim fun t93 h=>h.elim fun t94 h=>h.elim fun t95 h=>h.elim fun t96 h=>h.elim fun t97 h=>h.elim fun t98 h=>h.elim fun t99 h =>  k e2 e1 d5 d4 d3 d0 c9 c4 c0 b9 b8 b7 b6 b5 b4 b3 b2 b1 b0 a8 a7 a6 a5 a4 a3 a2 a1 a0 w9 w8 w7 w6 w5 w4 w3 w2 v9 v8 v7 v6 v5 v4 v3 v2 v1 v0 u8 u4 u0 z9 z8 z7 z6 z5 z4 z3 z2 z1 z0 y6 y5 x9 x8 x7 x6 x5 x4 x3 x2 x1 x0 h9 Z Y V U T S R O J I H G F D B A s g t15 t16 t17 t85 t86 t87 t88 t89 t90 t91 t92 t93 t94 t95 t96 t97 t98 t99 h.1 h.2
theorem dV {b:Nat}{SV FV TV GV:fD}{f E M:LI}{s':SS}{m':List Rw}{y0 y1 y2 y3 y4 y7 y8 y9 A s g a:fD}{L:Array Bool}{W':fH}{t15 t16 t17 t85 t86 t87 t88 t89 t90 t91 t92 t93 t94 t95 t96 t97 t98 t99:fD}{i:Nat}{W0:fH}{e7 e6 e5 e4 e3 e2 e1 d5 d4 d3 d0 c9 c4 c0 b9 b8 b7 b6 b5 b4 b3 b2 b1 b0 a8 a7 a6 a5 a4 a3 a2 a1 a0 w9 w8 w7 w6 w5 w4 w3 w2 v9 v8 v7 v6 v5 v4 v3 v2 v1 v0 u8 u4 u0 z9 z8 z7 z6 z5 z4 z3 z2 z1 z0 y6 y5 x9 x7 x6 x5 x4 x3 x2 x1 x0 h9 Z Y V U T R O J I H G F D B:fD}(f6:L.size=19)(hx:Below W0.heap.size W0 W')(S:dJ N b SV FV TV GV f E M s' m' (L.setIfInBounds i true) W' t15 t16 t17 t85 t86 t87 t88 t89 t90 t91 t92 t93 t94 t95 t96 t97 t98 t99):
  AU N b SV FV TV GV f E M s' m' y0 y1 y2 y3 y4 y7 y8 y9 A s g a W0 (L.setIfInBounds i true) { tmps:=#[y0,y1,y2,y3,y4,.pointer (some ⟨b,0,none⟩),TV,y7,y8,y9,A,s,g,a,GV,t15,t16,t17,e7,e6,e5,e4,e3,e2,e1,d5,d4,d3,d0,c9,c4,c0,b9,b8,b7,b6,b5,b4,b3,b2,b1,b0,a8,a7,a6,a5,a4,a3,a2,a1,a0,w9,w8,w7,w6,w5,w4,w3,w2,v9,v8,v7,v6,v5,v4,v3,v2,v1,v0,u8,u4,u0,z9,z8,z7,z6,z5,z4,z3,z2,z1,z0,y6,y5,x9,t85,t86,t87,t88,t89,t90,t91,t92,t93,t94,t95,t96,t97,t98,t99,x7,x6,x5,x4,x3,x2,x1,x0,h9,Z,Y,V,U,T,R,O,J,I,H,G,F,D,B],defers:=[] } W':=
 ⟨by simp[f6],hx,_,_,_,_,_,_,_,_,_,_,_,_,_,_,_,_,_,_,_,_,_,_,_,_,_,_,_,_,_,_,_,_,_,_,_,_,_,_,_,_,_,_,_,_,_,_,_,_,_,_,_,_,_,_,_,_,_,_,_,_,_,_,_,_,_,_,_,_,_,_,_,_,_,_,_,_,_,_,_,_,_,_,_,_,_,_,_,_,_,_,_,_,_,_,_,_,_,_,_,_,_,_,_,_,_,_,_,_,rfl,S⟩
end Go.Proofs.YtbdpcngcbnoioaaGreatDoor
