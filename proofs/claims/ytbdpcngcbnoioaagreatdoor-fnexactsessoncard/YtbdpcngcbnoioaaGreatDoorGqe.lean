import Derived.Test.YtbdpcngcbnoioaaGreatDoorGqb
import Derived.Test.YtbdpcngcbnoioaaGreatDoorGd4
import Derived.Test.YtbdpcngcbnoioaaGreatDoorGpa
import Derived.Test.YtbdpcngcbnoioaaGreatDoorGlk
import Derived.Test.YtbdpcngcbnoioaaGreatDoorGmr
import Derived.Laws.OwnMore
import Derived.Test.YtbdpcngcbnoioaaGreatDoorGqc
set_option maxRecDepth 100000
set_option maxHeartbeats 32000000
namespace Go.Proofs.YtbdpcngcbnoioaaGreatDoor
open Go.RowKit Go.Shelf
attribute [local go_sem ↓] Go.wp_at_zero Go.wp_at_succ
section
variable {o:Oper} {a:Act} {Kk:Act->World->Prop} {Q:Exit->Act->World->Prop}
theorem wpTs_o (w:World) (hgd:o.guard=none) (s x:Operand) (ho:o.op= .call { callee:= .builtin .append,args:=#[s,x],argTypes:=#[27,27] })
  (base:Nat) (v:Value) (l:LI) (hs:a.eval s=v) (hown:Own w base v l) (v2:Value) (m:LI) (hx:a.eval x=v2) (hR:Ts w v2 m) (hl:l.length+m.length<=2000000) (hbase:base<=w.heap.size)
  (h:∀ v' w',Own w' base v' (l++m)->w.grownBy w' v.ownBlock->Kk (a.put o.dst v') w'):Oper.wp Tryz.prog o a w Kk Q:=by
 have:=stepTs (ops:=#[]) (E:=False) (Q:=Q) w hgd s x ho base v l hs hown v2 m hx hR hl hbase h
 rwa [if_pos (by simp [Region.wanted,hgd])] at this
theorem wpRs_o (w:World) (hgd:o.guard=none) (s x:Operand) (ho:o.op= .call { callee:= .builtin .append,args:=#[s,x],argTypes:=#[28,28] })
  (base:Nat) (v:Value) (l:List Rw) (hs:a.eval s=v) (hown:OwnR w base v l) (v2:Value) (m:List Rw) (hx:a.eval x=v2) (hR:Rs w v2 m) (hl:l.length+m.length<=2000000) (hbase:base<=w.heap.size)
  (h:∀ v' w',OwnR w' base v' (l++m)->w.grownBy w' v.ownBlock->Kk (a.put o.dst v') w'):Oper.wp Tryz.prog o a w Kk Q:=by
 have:=stepRs (ops:=#[]) (E:=False) (Q:=Q) w hgd s x ho base v l hs hown v2 m hx hR hl hbase h
 rwa [if_pos (by simp [Region.wanted,hgd])] at this
end
theorem KdP.noc {p:Nat->Prop} {q:Nat} {w w':World} {ty:TypeId} (hb:Bk w q #[] ty) (hx:∀ x,x<w.heap.size->x≠q->w'.heap[x]?=w.heap[x]?):∀ {t:PT} {s:Value},KdP p w t s->KdP p w' t s
 | .n0 _ _,_,h=>h
 | .n1 _ _ _,_,⟨g,c,sx,e,hp,h1,h2,h3,h4⟩ =>
  have H2:=hx g (lC h1) (no_cell hb h1)
  ⟨g,c,sx,e,hp,cell_at H2 h1,cell_at H2 h2,cell_at H2 h3,KdP.noc hb hx h4⟩
 | .n2 _ _ _ _,_,⟨g,c,sx,sy,e,hp,h1,h2,h3,h4,h5,h6,h7,h8⟩ =>
  have H2:=hx g (lC h1) (no_cell hb h1)
  ⟨g,c,sx,sy,e,hp,cell_at H2 h1,cell_at H2 h2,cell_at H2 h3,cell_at H2 h4,cell_at H2 h5,cell_at H2 h6,KdP.noc hb hx h7,KdP.noc hb hx h8⟩
where
 no_cell {w:World} {g q i:Nat} {v:Value} {ty:TypeId} (hb:Bk w q #[] ty) (h:w.cell? ⟨g,i,none⟩=some v):g≠q:=fun e=>by
  subst e;unfold Bk at hb;simp [World.cell?,hb] at h
theorem KdP.wk {p q:Nat->Prop} {w:World} {t:PT} {s:Value} (h:KdP p w t s) (H:∀ g,p g->q g):KdP q w t s:=h.move fun g hp _=>⟨H g hp,rfl⟩
structure CopS (s:SS) (A N:Nat) (a0 a2 a3:Option Addr) (c0 c2 c3:Nat) (L:Array Bool) (W:World) (t3 t5 t6 t7 t8 t9 t10 t11 t12 t13 t14 t15 t16:Value):Prop where
 s0:L.getD 0 false=true->t5= .pointer (some ⟨A,0,none⟩)
 s1:L.getD 1 false=true->t6=pl s.t.k s.t.n (.slice a0 s.t.len c0)
 s2:L.getD 2 false=true->∃ ak ck,t7=pl s.t.k s.t.n (.slice ak s.t.len ck)/\KdP (fun g=>N<=g/\(L.getD 12 false=true->t3≠ .pointer (some ⟨g,0,none⟩))) W s.t (.slice ak s.t.len ck)
 s3:L.getD 3 false=true->L.getD 6 true=false->∃ q,t8= .slice (some ⟨q,0,none⟩) 0 0/\N<=q/\Bk W q #[] 32
 s4:L.getD 4 false=true->t9= .pointer (some ⟨A,4,none⟩)
 s5:L.getD 5 false=true->t10= .slice a2 s.f.length c2
 s6:L.getD 6 false=true->∃ a c,t11= .slice a s.f.length c/\Own W N (.slice a s.f.length c) s.f
 s7:L.getD 7 false=true->L.getD 10 true=false->∃ q,t12= .slice (some ⟨q,0,none⟩) 0 0/\N<=q/\Bk W q #[] 55
 s8:L.getD 8 false=true->t13= .pointer (some ⟨A,5,none⟩)
 s9:L.getD 9 false=true->t14= .slice a3 s.d.length c3
 s10:L.getD 10 false=true->∃ a c,t15= .slice a s.d.length c/\OwnR W N (.slice a s.d.length c) s.d
 s11:L.getD 11 false=true->∃ ak ck a c a' c',t16=sv s.t.k s.t.n (.slice ak s.t.len ck) nilV (.slice a s.f.length c) (.slice a' s.d.length c')/\t7=pl s.t.k s.t.n (.slice ak s.t.len ck)/\t11= .slice a s.f.length c/\t15= .slice a' s.d.length c'
 s12:L.getD 12 false=true->L.getD 13 true=false->∃ q,t3= .pointer (some ⟨q,0,none⟩)/\N<=q/\Bk W q #[.int .i64 0, .int .i64 0, .slice none 0 0, .slice none 0 0, .slice none 0 0, .slice none 0 0] 30
 s13:L.getD 13 false=true->∃ q ak ck a c a' c',t3= .pointer (some ⟨q,0,none⟩)/\N<=q/\Bk W q #[.int .i64 s.t.k, .int .i64 s.t.n, .slice ak s.t.len ck,nilV, .slice a s.f.length c, .slice a' s.d.length c'] 30/\t7=pl s.t.k s.t.n (.slice ak s.t.len ck)/\t11= .slice a s.f.length c/\t15= .slice a' s.d.length c'
 c11:L.getD 11 false=true->L.getD 2 false=true/\L.getD 6 false=true/\L.getD 10 false=true
 c13:L.getD 13 false=true->L.getD 11 false=true/\L.getD 12 false=true
variable {s:SS} {A N:Nat} {a0 a2 a3:Option Addr} {c0 c2 c3:Nat} {L:Array Bool} {W W':World} {t3 t5 t6 t7 t8 t9 t10 t11 t12 t13 t14 t15 t16:Value}
theorem CopS.keep (h:CopS s A N a0 a2 a3 c0 c2 c3 L W t3 t5 t6 t7 t8 t9 t10 t11 t12 t13 t14 t15 t16) (hb:Below W.heap.size W W'):CopS s A N a0 a2 a3 c0 c2 c3 L W' t3 t5 t6 t7 t8 t9 t10 t11 t12 t13 t14 t15 t16 where
 s0:=h.s0
 s1:=h.s1
 s2:=fun e=>by obtain ⟨ak,ck,h1,h2⟩:=h.s2 e;exact ⟨ak,ck,h1,h2.keep hb⟩
 s3:=fun e e2=>by obtain ⟨q,h1,h2,h3⟩:=h.s3 e e2;exact ⟨q,h1,h2,h3.keep hb⟩
 s4:=h.s4
 s5:=h.s5
 s6:=fun e=>by obtain ⟨x,y,h1,h2⟩:=h.s6 e;exact ⟨x,y,h1,oK h2 hb⟩
 s7:=fun e e2=>by obtain ⟨q,h1,h2,h3⟩:=h.s7 e e2;exact ⟨q,h1,h2,h3.keep hb⟩
 s8:=h.s8
 s9:=h.s9
 s10:=fun e=>by obtain ⟨x,y,h1,h2⟩:=h.s10 e;exact ⟨x,y,h1,oK h2 hb⟩
 s11:=h.s11
 s12:=fun e e2=>by obtain ⟨q,h1,h2,h3⟩:=h.s12 e e2;exact ⟨q,h1,h2,h3.keep hb⟩
 s13:=fun e=>by obtain ⟨q,ak,ck,x,y,x',y',h1,h2,h3,h4⟩:=h.s13 e;exact ⟨q,ak,ck,x,y,x',y',h1,h2,h3.keep hb,h4⟩
 c11:=h.c11
 c13:=h.c13
theorem getD_upV {L:Array Bool} {i j:Nat} (h:L.getD j false=true):(L.setIfInBounds i true).getD j false=true:=by
 simp only [Array.getD_eq_getD_getElem?,Array.getElem?_setIfInBounds] at h ⊢
 by_cases e:i=j
 ·subst e
  by_cases hl:i<L.size
  ·simp [hl]
  ·simp [Array.getElem?_eq_none (show L.size<=i by omega)] at h
 ·rw [if_neg e];exact h
theorem gN {L:Array Bool} {j:Nat} (h:L.getD j false=true) (h':L.getD j true=false):False:=by
 simp only [Array.getD_eq_getD_getElem?] at h h';cases e:L[j]?<;>simp [e] at h h';rw [h] at h';cases h'
theorem ptr_ne {q g:Nat} (h:q≠g) (e:Value.pointer (some ⟨q,0,none⟩)= .pointer (some ⟨g,0,none⟩)):False:=h (congrArg Addr.block (Option.some.inj (Value.pointer.inj e)))
theorem own_q {q z:Nat} (e:(Value.slice (some ⟨q,0,none⟩) 0 0).ownBlock=some z):q=z:=by simpa [Value.ownBlock] using e
theorem gH {L:Array Bool} {i:Nat} {b:Bool} (h:i<L.size):(L.setIfInBounds i true).getD i b=true:=by
 simp [Array.getD_eq_getD_getElem?,h]
theorem CopS.put0 {u:Value} (h:CopS s A N a0 a2 a3 c0 c2 c3 L W t3 t5 t6 t7 t8 t9 t10 t11 t12 t13 t14 t15 t16) (hu:u= .pointer (some ⟨A,0,none⟩)):CopS s A N a0 a2 a3 c0 c2 c3 (L.setIfInBounds 0 true) W t3 u t6 t7 t8 t9 t10 t11 t12 t13 t14 t15 t16 where
 s0:=fun _=>hu
 s1:=fun e=>h.s1 (gS e)
 s2:=fun e=>by obtain ⟨ak,ck,h1,h2⟩:=h.s2 (gS e);exact ⟨ak,ck,h1,h2.wk fun g hg=>⟨hg.1,fun e3=>hg.2 (gS e3)⟩⟩
 s3:=fun e e2=>h.s3 (gS e) (gT e2)
 s4:=fun e=>h.s4 (gS e)
 s5:=fun e=>h.s5 (gS e)
 s6:=fun e=>h.s6 (gS e)
 s7:=fun e e2=>h.s7 (gS e) (gT e2)
 s8:=fun e=>h.s8 (gS e)
 s9:=fun e=>h.s9 (gS e)
 s10:=fun e=>h.s10 (gS e)
 s11:=fun e=>h.s11 (gS e)
 s12:=fun e e2=>h.s12 (gS e) (gT e2)
 s13:=fun e=>h.s13 (gS e)
 c11:=fun e=>by obtain ⟨x1,x2,x3⟩:=h.c11 (gS e);exact ⟨getD_upV x1,getD_upV x2,getD_upV x3⟩
 c13:=fun e=>by obtain ⟨x1,x2⟩:=h.c13 (gS e);exact ⟨getD_upV x1,getD_upV x2⟩
theorem CopS.put1 {u:Value} (h:CopS s A N a0 a2 a3 c0 c2 c3 L W t3 t5 t6 t7 t8 t9 t10 t11 t12 t13 t14 t15 t16) (hu:u=pl s.t.k s.t.n (.slice a0 s.t.len c0)):CopS s A N a0 a2 a3 c0 c2 c3 (L.setIfInBounds 1 true) W t3 t5 u t7 t8 t9 t10 t11 t12 t13 t14 t15 t16 where
 s0:=fun e=>h.s0 (gS e)
 s1:=fun _=>hu
 s2:=fun e=>by obtain ⟨ak,ck,h1,h2⟩:=h.s2 (gS e);exact ⟨ak,ck,h1,h2.wk fun g hg=>⟨hg.1,fun e3=>hg.2 (gS e3)⟩⟩
 s3:=fun e e2=>h.s3 (gS e) (gT e2)
 s4:=fun e=>h.s4 (gS e)
 s5:=fun e=>h.s5 (gS e)
 s6:=fun e=>h.s6 (gS e)
 s7:=fun e e2=>h.s7 (gS e) (gT e2)
 s8:=fun e=>h.s8 (gS e)
 s9:=fun e=>h.s9 (gS e)
 s10:=fun e=>h.s10 (gS e)
 s11:=fun e=>h.s11 (gS e)
 s12:=fun e e2=>h.s12 (gS e) (gT e2)
 s13:=fun e=>h.s13 (gS e)
 c11:=fun e=>by obtain ⟨x1,x2,x3⟩:=h.c11 (gS e);exact ⟨getD_upV x1,getD_upV x2,getD_upV x3⟩
 c13:=fun e=>by obtain ⟨x1,x2⟩:=h.c13 (gS e);exact ⟨getD_upV x1,getD_upV x2⟩
theorem CopS.put4 {u:Value} (h:CopS s A N a0 a2 a3 c0 c2 c3 L W t3 t5 t6 t7 t8 t9 t10 t11 t12 t13 t14 t15 t16) (hu:u= .pointer (some ⟨A,4,none⟩)):CopS s A N a0 a2 a3 c0 c2 c3 (L.setIfInBounds 4 true) W t3 t5 t6 t7 t8 u t10 t11 t12 t13 t14 t15 t16 where
 s0:=fun e=>h.s0 (gS e)
 s1:=fun e=>h.s1 (gS e)
 s2:=fun e=>by obtain ⟨ak,ck,h1,h2⟩:=h.s2 (gS e);exact ⟨ak,ck,h1,h2.wk fun g hg=>⟨hg.1,fun e3=>hg.2 (gS e3)⟩⟩
 s3:=fun e e2=>h.s3 (gS e) (gT e2)
 s4:=fun _=>hu
 s5:=fun e=>h.s5 (gS e)
 s6:=fun e=>h.s6 (gS e)
 s7:=fun e e2=>h.s7 (gS e) (gT e2)
 s8:=fun e=>h.s8 (gS e)
 s9:=fun e=>h.s9 (gS e)
 s10:=fun e=>h.s10 (gS e)
 s11:=fun e=>h.s11 (gS e)
 s12:=fun e e2=>h.s12 (gS e) (gT e2)
 s13:=fun e=>h.s13 (gS e)
 c11:=fun e=>by obtain ⟨x1,x2,x3⟩:=h.c11 (gS e);exact ⟨getD_upV x1,getD_upV x2,getD_upV x3⟩
 c13:=fun e=>by obtain ⟨x1,x2⟩:=h.c13 (gS e);exact ⟨getD_upV x1,getD_upV x2⟩
theorem CopS.put5 {u:Value} (h:CopS s A N a0 a2 a3 c0 c2 c3 L W t3 t5 t6 t7 t8 t9 t10 t11 t12 t13 t14 t15 t16) (hu:u= .slice a2 s.f.length c2):CopS s A N a0 a2 a3 c0 c2 c3 (L.setIfInBounds 5 true) W t3 t5 t6 t7 t8 t9 u t11 t12 t13 t14 t15 t16 where
 s0:=fun e=>h.s0 (gS e)
 s1:=fun e=>h.s1 (gS e)
 s2:=fun e=>by obtain ⟨ak,ck,h1,h2⟩:=h.s2 (gS e);exact ⟨ak,ck,h1,h2.wk fun g hg=>⟨hg.1,fun e3=>hg.2 (gS e3)⟩⟩
 s3:=fun e e2=>h.s3 (gS e) (gT e2)
 s4:=fun e=>h.s4 (gS e)
 s5:=fun _=>hu
 s6:=fun e=>h.s6 (gS e)
 s7:=fun e e2=>h.s7 (gS e) (gT e2)
 s8:=fun e=>h.s8 (gS e)
 s9:=fun e=>h.s9 (gS e)
 s10:=fun e=>h.s10 (gS e)
 s11:=fun e=>h.s11 (gS e)
 s12:=fun e e2=>h.s12 (gS e) (gT e2)
 s13:=fun e=>h.s13 (gS e)
 c11:=fun e=>by obtain ⟨x1,x2,x3⟩:=h.c11 (gS e);exact ⟨getD_upV x1,getD_upV x2,getD_upV x3⟩
 c13:=fun e=>by obtain ⟨x1,x2⟩:=h.c13 (gS e);exact ⟨getD_upV x1,getD_upV x2⟩
theorem CopS.put8 {u:Value} (h:CopS s A N a0 a2 a3 c0 c2 c3 L W t3 t5 t6 t7 t8 t9 t10 t11 t12 t13 t14 t15 t16) (hu:u= .pointer (some ⟨A,5,none⟩)):CopS s A N a0 a2 a3 c0 c2 c3 (L.setIfInBounds 8 true) W t3 t5 t6 t7 t8 t9 t10 t11 t12 u t14 t15 t16 where
 s0:=fun e=>h.s0 (gS e)
 s1:=fun e=>h.s1 (gS e)
 s2:=fun e=>by obtain ⟨ak,ck,h1,h2⟩:=h.s2 (gS e);exact ⟨ak,ck,h1,h2.wk fun g hg=>⟨hg.1,fun e3=>hg.2 (gS e3)⟩⟩
 s3:=fun e e2=>h.s3 (gS e) (gT e2)
 s4:=fun e=>h.s4 (gS e)
 s5:=fun e=>h.s5 (gS e)
 s6:=fun e=>h.s6 (gS e)
 s7:=fun e e2=>h.s7 (gS e) (gT e2)
 s8:=fun _=>hu
 s9:=fun e=>h.s9 (gS e)
 s10:=fun e=>h.s10 (gS e)
 s11:=fun e=>h.s11 (gS e)
 s12:=fun e e2=>h.s12 (gS e) (gT e2)
 s13:=fun e=>h.s13 (gS e)
 c11:=fun e=>by obtain ⟨x1,x2,x3⟩:=h.c11 (gS e);exact ⟨getD_upV x1,getD_upV x2,getD_upV x3⟩
 c13:=fun e=>by obtain ⟨x1,x2⟩:=h.c13 (gS e);exact ⟨getD_upV x1,getD_upV x2⟩
theorem CopS.put9 {u:Value} (h:CopS s A N a0 a2 a3 c0 c2 c3 L W t3 t5 t6 t7 t8 t9 t10 t11 t12 t13 t14 t15 t16) (hu:u= .slice a3 s.d.length c3):CopS s A N a0 a2 a3 c0 c2 c3 (L.setIfInBounds 9 true) W t3 t5 t6 t7 t8 t9 t10 t11 t12 t13 u t15 t16 where
 s0:=fun e=>h.s0 (gS e)
 s1:=fun e=>h.s1 (gS e)
 s2:=fun e=>by obtain ⟨ak,ck,h1,h2⟩:=h.s2 (gS e);exact ⟨ak,ck,h1,h2.wk fun g hg=>⟨hg.1,fun e3=>hg.2 (gS e3)⟩⟩
 s3:=fun e e2=>h.s3 (gS e) (gT e2)
 s4:=fun e=>h.s4 (gS e)
 s5:=fun e=>h.s5 (gS e)
 s6:=fun e=>h.s6 (gS e)
 s7:=fun e e2=>h.s7 (gS e) (gT e2)
 s8:=fun e=>h.s8 (gS e)
 s9:=fun _=>hu
 s10:=fun e=>h.s10 (gS e)
 s11:=fun e=>h.s11 (gS e)
 s12:=fun e e2=>h.s12 (gS e) (gT e2)
 s13:=fun e=>h.s13 (gS e)
 c11:=fun e=>by obtain ⟨x1,x2,x3⟩:=h.c11 (gS e);exact ⟨getD_upV x1,getD_upV x2,getD_upV x3⟩
 c13:=fun e=>by obtain ⟨x1,x2⟩:=h.c13 (gS e);exact ⟨getD_upV x1,getD_upV x2⟩
theorem CopS.put2 {u:Value} (hL:L.getD 11 false=true->False) (hL3:L.getD 13 false=true->False) (h:CopS s A N a0 a2 a3 c0 c2 c3 L W t3 t5 t6 t7 t8 t9 t10 t11 t12 t13 t14 t15 t16) (hu:∃ ak ck,u=pl s.t.k s.t.n (.slice ak s.t.len ck)/\KdP (fun g=>N<=g/\(L.getD 12 false=true->t3≠ .pointer (some ⟨g,0,none⟩))) W s.t (.slice ak s.t.len ck)):CopS s A N a0 a2 a3 c0 c2 c3 (L.setIfInBounds 2 true) W t3 t5 t6 u t8 t9 t10 t11 t12 t13 t14 t15 t16 where
 s0:=fun e=>h.s0 (gS e)
 s1:=fun e=>h.s1 (gS e)
 s2:=fun _=>by obtain ⟨ak,ck,h1,h2⟩:=hu;exact ⟨ak,ck,h1,h2.wk fun g hg=>⟨hg.1,fun e3=>hg.2 (gS e3)⟩⟩
 s3:=fun e e2=>h.s3 (gS e) (gT e2)
 s4:=fun e=>h.s4 (gS e)
 s5:=fun e=>h.s5 (gS e)
 s6:=fun e=>h.s6 (gS e)
 s7:=fun e e2=>h.s7 (gS e) (gT e2)
 s8:=fun e=>h.s8 (gS e)
 s9:=fun e=>h.s9 (gS e)
 s10:=fun e=>h.s10 (gS e)
 s11:=fun e=>(hL (gS e)).elim
 s12:=fun e e2=>h.s12 (gS e) (gT e2)
 s13:=fun e=>(hL3 (gS e)).elim
 c11:=fun e=>by obtain ⟨x1,x2,x3⟩:=h.c11 (gS e);exact ⟨getD_upV x1,getD_upV x2,getD_upV x3⟩
 c13:=fun e=>by obtain ⟨x1,x2⟩:=h.c13 (gS e);exact ⟨getD_upV x1,getD_upV x2⟩
theorem CopS.put3 {q:Nat} (h:CopS s A N a0 a2 a3 c0 c2 c3 L W t3 t5 t6 t7 t8 t9 t10 t11 t12 t13 t14 t15 t16) (hq:N<=q) (hb:Bk W q #[] 32):CopS s A N a0 a2 a3 c0 c2 c3 (L.setIfInBounds 3 true) W t3 t5 t6 t7 (.slice (some ⟨q,0,none⟩) 0 0) t9 t10 t11 t12 t13 t14 t15 t16 where
 s0:=fun e=>h.s0 (gS e)
 s1:=fun e=>h.s1 (gS e)
 s2:=fun e=>by obtain ⟨ak,ck,h1,h2⟩:=h.s2 (gS e);exact ⟨ak,ck,h1,h2.wk fun g hg=>⟨hg.1,fun e3=>hg.2 (gS e3)⟩⟩
 s3:=fun _ _=>⟨q,rfl,hq,hb⟩
 s4:=fun e=>h.s4 (gS e)
 s5:=fun e=>h.s5 (gS e)
 s6:=fun e=>h.s6 (gS e)
 s7:=fun e e2=>h.s7 (gS e) (gT e2)
 s8:=fun e=>h.s8 (gS e)
 s9:=fun e=>h.s9 (gS e)
 s10:=fun e=>h.s10 (gS e)
 s11:=fun e=>h.s11 (gS e)
 s12:=fun e e2=>h.s12 (gS e) (gT e2)
 s13:=fun e=>h.s13 (gS e)
 c11:=fun e=>by obtain ⟨x1,x2,x3⟩:=h.c11 (gS e);exact ⟨getD_upV x1,getD_upV x2,getD_upV x3⟩
 c13:=fun e=>by obtain ⟨x1,x2⟩:=h.c13 (gS e);exact ⟨getD_upV x1,getD_upV x2⟩
theorem CopS.put7 {q:Nat} (h:CopS s A N a0 a2 a3 c0 c2 c3 L W t3 t5 t6 t7 t8 t9 t10 t11 t12 t13 t14 t15 t16) (hq:N<=q) (hb:Bk W q #[] 55):CopS s A N a0 a2 a3 c0 c2 c3 (L.setIfInBounds 7 true) W t3 t5 t6 t7 t8 t9 t10 t11 (.slice (some ⟨q,0,none⟩) 0 0) t13 t14 t15 t16 where
 s0:=fun e=>h.s0 (gS e)
 s1:=fun e=>h.s1 (gS e)
 s2:=fun e=>by obtain ⟨ak,ck,h1,h2⟩:=h.s2 (gS e);exact ⟨ak,ck,h1,h2.wk fun g hg=>⟨hg.1,fun e3=>hg.2 (gS e3)⟩⟩
 s3:=fun e e2=>h.s3 (gS e) (gT e2)
 s4:=fun e=>h.s4 (gS e)
 s5:=fun e=>h.s5 (gS e)
 s6:=fun e=>h.s6 (gS e)
 s7:=fun _ _=>⟨q,rfl,hq,hb⟩
 s8:=fun e=>h.s8 (gS e)
 s9:=fun e=>h.s9 (gS e)
 s10:=fun e=>h.s10 (gS e)
 s11:=fun e=>h.s11 (gS e)
 s12:=fun e e2=>h.s12 (gS e) (gT e2)
 s13:=fun e=>h.s13 (gS e)
 c11:=fun e=>by obtain ⟨x1,x2,x3⟩:=h.c11 (gS e);exact ⟨getD_upV x1,getD_upV x2,getD_upV x3⟩
 c13:=fun e=>by obtain ⟨x1,x2⟩:=h.c13 (gS e);exact ⟨getD_upV x1,getD_upV x2⟩
theorem CopS.put6 {q y:Nat} {x:Option Addr} (hLs:L.size=14) (hL:L.getD 11 false=true->False) (hL3:L.getD 13 false=true->False) (h:CopS s A N a0 a2 a3 c0 c2 c3 L W t3 t5 t6 t7 t8 t9 t10 t11 t12 t13 t14 t15 t16) (hq:Bk W q #[] 32) (hx:∀ x,x<W.heap.size->x≠q->W'.heap[x]?=W.heap[x]?) (hu:Own W' N (.slice x s.f.length y) s.f):CopS s A N a0 a2 a3 c0 c2 c3 (L.setIfInBounds 6 true) W' t3 t5 t6 t7 t8 t9 t10 (.slice x s.f.length y) t12 t13 t14 t15 t16 where
 s0:=fun e=>h.s0 (gS e)
 s1:=fun e=>h.s1 (gS e)
 s2:=fun e=>by obtain ⟨ak,ck,h1,h2⟩:=h.s2 (gS e);exact ⟨ak,ck,h1,(h2.noc hq hx).wk fun g hg=>⟨hg.1,fun e3=>hg.2 (gS e3)⟩⟩
 s3:=fun _ e2=>absurd e2 (by rw [gH (by omega)];decide)
 s4:=fun e=>h.s4 (gS e)
 s5:=fun e=>h.s5 (gS e)
 s6:=fun _=>⟨x,y,rfl,hu⟩
 s7:=fun e e2=>by obtain ⟨q',h1,h2,h3⟩:=h.s7 (gS e) (gT e2);exact ⟨q',h1,h2,by unfold Bk;rw [hx q' h3.lt (bK h3 hq (by decide))];exact h3⟩
 s8:=fun e=>h.s8 (gS e)
 s9:=fun e=>h.s9 (gS e)
 s10:=fun e=>by obtain ⟨x,y,h1,h2⟩:=h.s10 (gS e);exact ⟨x,y,h1,oAz h2 fun b e=>hx b (oT h2 b e) (by obtain ⟨d,hd⟩:=ownR_cells h2 e;exact bK hd hq (by decide))⟩
 s11:=fun e=>(hL (gS e)).elim
 s12:=fun e e2=>by obtain ⟨q',h1,h2,h3⟩:=h.s12 (gS e) (gT e2);exact ⟨q',h1,h2,by unfold Bk;rw [hx q' h3.lt (bK h3 hq (by decide))];exact h3⟩
 s13:=fun e=>(hL3 (gS e)).elim
 c11:=fun e=>by obtain ⟨x1,x2,x3⟩:=h.c11 (gS e);exact ⟨getD_upV x1,getD_upV x2,getD_upV x3⟩
 c13:=fun e=>by obtain ⟨x1,x2⟩:=h.c13 (gS e);exact ⟨getD_upV x1,getD_upV x2⟩
theorem CopS.put10 {q y:Nat} {x:Option Addr} (hLs:L.size=14) (hL:L.getD 11 false=true->False) (hL3:L.getD 13 false=true->False) (h:CopS s A N a0 a2 a3 c0 c2 c3 L W t3 t5 t6 t7 t8 t9 t10 t11 t12 t13 t14 t15 t16) (hq:Bk W q #[] 55) (hx:∀ x,x<W.heap.size->x≠q->W'.heap[x]?=W.heap[x]?) (hu:OwnR W' N (.slice x s.d.length y) s.d):CopS s A N a0 a2 a3 c0 c2 c3 (L.setIfInBounds 10 true) W' t3 t5 t6 t7 t8 t9 t10 t11 t12 t13 t14 (.slice x s.d.length y) t16 where
 s0:=fun e=>h.s0 (gS e)
 s1:=fun e=>h.s1 (gS e)
 s2:=fun e=>by obtain ⟨ak,ck,h1,h2⟩:=h.s2 (gS e);exact ⟨ak,ck,h1,(h2.noc hq hx).wk fun g hg=>⟨hg.1,fun e3=>hg.2 (gS e3)⟩⟩
 s3:=fun e e2=>by obtain ⟨q',h1,h2,h3⟩:=h.s3 (gS e) (gT e2);exact ⟨q',h1,h2,by unfold Bk;rw [hx q' h3.lt (bK h3 hq (by decide))];exact h3⟩
 s4:=fun e=>h.s4 (gS e)
 s5:=fun e=>h.s5 (gS e)
 s6:=fun e=>by obtain ⟨x,y,h1,h2⟩:=h.s6 (gS e);exact ⟨x,y,h1,oAz h2 fun b e=>hx b (oT h2 b e) (by obtain ⟨d,hd⟩:=time_blk h2 e;exact bK hd hq (by decide))⟩
 s7:=fun _ e2=>absurd e2 (by rw [gH (by omega)];decide)
 s8:=fun e=>h.s8 (gS e)
 s9:=fun e=>h.s9 (gS e)
 s10:=fun _=>⟨x,y,rfl,hu⟩
 s11:=fun e=>(hL (gS e)).elim
 s12:=fun e e2=>by obtain ⟨q',h1,h2,h3⟩:=h.s12 (gS e) (gT e2);exact ⟨q',h1,h2,by unfold Bk;rw [hx q' h3.lt (bK h3 hq (by decide))];exact h3⟩
 s13:=fun e=>(hL3 (gS e)).elim
 c11:=fun e=>by obtain ⟨x1,x2,x3⟩:=h.c11 (gS e);exact ⟨getD_upV x1,getD_upV x2,getD_upV x3⟩
 c13:=fun e=>by obtain ⟨x1,x2⟩:=h.c13 (gS e);exact ⟨getD_upV x1,getD_upV x2⟩
theorem CopS.put11 {u:Value} (hall:L.getD 2 false=true/\L.getD 6 false=true/\L.getD 10 false=true) (h:CopS s A N a0 a2 a3 c0 c2 c3 L W t3 t5 t6 t7 t8 t9 t10 t11 t12 t13 t14 t15 t16) (hu:∃ ak ck a c a' c',u=sv s.t.k s.t.n (.slice ak s.t.len ck) nilV (.slice a s.f.length c) (.slice a' s.d.length c')/\t7=pl s.t.k s.t.n (.slice ak s.t.len ck)/\t11= .slice a s.f.length c/\t15= .slice a' s.d.length c'):CopS s A N a0 a2 a3 c0 c2 c3 (L.setIfInBounds 11 true) W t3 t5 t6 t7 t8 t9 t10 t11 t12 t13 t14 t15 u where
 s0:=fun e=>h.s0 (gS e)
 s1:=fun e=>h.s1 (gS e)
 s2:=fun e=>by obtain ⟨ak,ck,h1,h2⟩:=h.s2 (gS e);exact ⟨ak,ck,h1,h2.wk fun g hg=>⟨hg.1,fun e3=>hg.2 (gS e3)⟩⟩
 s3:=fun e e2=>h.s3 (gS e) (gT e2)
 s4:=fun e=>h.s4 (gS e)
 s5:=fun e=>h.s5 (gS e)
 s6:=fun e=>h.s6 (gS e)
 s7:=fun e e2=>h.s7 (gS e) (gT e2)
 s8:=fun e=>h.s8 (gS e)
 s9:=fun e=>h.s9 (gS e)
 s10:=fun e=>h.s10 (gS e)
 s11:=fun _=>hu
 s12:=fun e e2=>h.s12 (gS e) (gT e2)
 s13:=fun e=>h.s13 (gS e)
 c11:=fun _=>⟨getD_upV hall.1,getD_upV hall.2.1,getD_upV hall.2.2⟩
 c13:=fun e=>by obtain ⟨x1,x2⟩:=h.c13 (gS e);exact ⟨getD_upV x1,getD_upV x2⟩
theorem CopS.put12 {q:Nat} (hL3:L.getD 13 false=true->False) (h:CopS s A N a0 a2 a3 c0 c2 c3 L W t3 t5 t6 t7 t8 t9 t10 t11 t12 t13 t14 t15 t16) (hn:N<=q) (hq:Bk W' q #[.int .i64 0, .int .i64 0, .slice none 0 0, .slice none 0 0, .slice none 0 0, .slice none 0 0] 30) (hb:Below W.heap.size W W') (hz:q=W.heap.size):CopS s A N a0 a2 a3 c0 c2 c3 (L.setIfInBounds 12 true) W' (.pointer (some ⟨q,0,none⟩)) t5 t6 t7 t8 t9 t10 t11 t12 t13 t14 t15 t16 where
 s0:=fun e=>(h.keep hb).s0 (gS e)
 s1:=fun e=>(h.keep hb).s1 (gS e)
 s2:=fun e=>by obtain ⟨ak,ck,h1,h2⟩:=h.s2 (gS e);exact ⟨ak,ck,h1,h2.move fun g hg hl=>⟨⟨hg.1,fun _ e4=>ptr_ne (by omega) e4⟩,hb.block g hl⟩⟩
 s3:=fun e e2=>(h.keep hb).s3 (gS e) (gT e2)
 s4:=fun e=>(h.keep hb).s4 (gS e)
 s5:=fun e=>(h.keep hb).s5 (gS e)
 s6:=fun e=>(h.keep hb).s6 (gS e)
 s7:=fun e e2=>(h.keep hb).s7 (gS e) (gT e2)
 s8:=fun e=>(h.keep hb).s8 (gS e)
 s9:=fun e=>(h.keep hb).s9 (gS e)
 s10:=fun e=>(h.keep hb).s10 (gS e)
 s11:=fun e=>(h.keep hb).s11 (gS e)
 s12:=fun _ _=>⟨q,rfl,hn,hq⟩
 s13:=fun e=>(hL3 (gS e)).elim
 c11:=fun e=>by obtain ⟨x1,x2,x3⟩:=h.c11 (gS e);exact ⟨getD_upV x1,getD_upV x2,getD_upV x3⟩
 c13:=fun e=>by obtain ⟨x1,x2⟩:=h.c13 (gS e);exact ⟨getD_upV x1,getD_upV x2⟩
theorem CopS.put13 {q ck y y':Nat} {ak x x':Option Addr} (hLs:L.size=14) (hl1:L.getD 11 false=true) (hl2:L.getD 12 false=true) (h:CopS s A N a0 a2 a3 c0 c2 c3 L W t3 t5 t6 t7 t8 t9 t10 t11 t12 t13 t14 t15 t16) (h3:t3= .pointer (some ⟨q,0,none⟩)) (hn:N<=q) (hq:Bk W q #[.int .i64 0, .int .i64 0, .slice none 0 0, .slice none 0 0, .slice none 0 0, .slice none 0 0] 30) (hx:∀ x,x<W.heap.size->x≠q->W'.heap[x]?=W.heap[x]?) (hu:Bk W' q #[.int .i64 s.t.k, .int .i64 s.t.n, .slice ak s.t.len ck,nilV, .slice x s.f.length y, .slice x' s.d.length y'] 30) (e7:t7=pl s.t.k s.t.n (.slice ak s.t.len ck)) (e11:t11= .slice x s.f.length y) (e15:t15= .slice x' s.d.length y'):CopS s A N a0 a2 a3 c0 c2 c3 (L.setIfInBounds 13 true) W' t3 t5 t6 t7 t8 t9 t10 t11 t12 t13 t14 t15 t16 where
 s0:=fun e=>h.s0 (gS e)
 s1:=fun e=>h.s1 (gS e)
 s2:=fun e=>by obtain ⟨ak,ck,h1,h2⟩:=h.s2 (gS e);exact ⟨ak,ck,h1,h2.move fun g hg hl=>⟨⟨hg.1,fun e3=>hg.2 (gS e3)⟩,hx g hl fun e4=>hg.2 hl2 (by rw [h3,e4])⟩⟩
 s3:=fun e e2=>by obtain ⟨q',h1,h2,h3⟩:=h.s3 (gS e) (gT e2);exact ⟨q',h1,h2,by unfold Bk;rw [hx q' h3.lt (bK h3 hq (by decide))];exact h3⟩
 s4:=fun e=>h.s4 (gS e)
 s5:=fun e=>h.s5 (gS e)
 s6:=fun e=>by obtain ⟨x,y,h1,h2⟩:=h.s6 (gS e);exact ⟨x,y,h1,oAz h2 fun b e=>hx b (oT h2 b e) (by obtain ⟨d,hd⟩:=time_blk h2 e;exact bK hd hq (by decide))⟩
 s7:=fun e e2=>by obtain ⟨q',h1,h2,h3⟩:=h.s7 (gS e) (gT e2);exact ⟨q',h1,h2,by unfold Bk;rw [hx q' h3.lt (bK h3 hq (by decide))];exact h3⟩
 s8:=fun e=>h.s8 (gS e)
 s9:=fun e=>h.s9 (gS e)
 s10:=fun e=>by obtain ⟨x,y,h1,h2⟩:=h.s10 (gS e);exact ⟨x,y,h1,oAz h2 fun b e=>hx b (oT h2 b e) (by obtain ⟨d,hd⟩:=ownR_cells h2 e;exact bK hd hq (by decide))⟩
 s11:=fun e=>h.s11 (gS e)
 s12:=fun _ e2=>absurd e2 (by rw [gH (by omega)];decide)
 s13:=fun _=>⟨q,ak,ck,x,y,x',y',h3,hn,hu,e7,e11,e15⟩
 c11:=fun e=>by obtain ⟨x1,x2,x3⟩:=h.c11 (gS e);exact ⟨getD_upV x1,getD_upV x2,getD_upV x3⟩
 c13:=fun _=>⟨getD_upV hl1,getD_upV hl2⟩
def CopI (s:SS) (A N:Nat) (a0 a2 a3:Option Addr) (c0 c2 c3:Nat) (W0:World) (L:Array Bool) (a:Act) (W:World):Prop :=
 L.size=14/\Below W0.heap.size W0 W/\∃ z0 t3 z4 t5 t6 t7 t8 t9 t10 t11 t12 t13 t14 t15 t16 z17 z18 z19 z20 z21 z22 z23 z24 z25 z26 z27 z28 z29 z30 z31 z32 z33 z34 z35 z36:Value,
  a={ tmps:=#[z0, .pointer (some ⟨A,0,none⟩), .pointer (some ⟨A+1,0,none⟩),t3,z4,t5,t6,t7,t8,t9,t10,t11,t12,t13,t14,t15,t16,z17,z18,z19,z20,z21,z22,z23,z24,z25,z26,z27,z28,z29,z30,z31,z32,z33,z34,z35,z36],defers:=[] }/\CopS s A N a0 a2 a3 c0 c2 c3 L W t3 t5 t6 t7 t8 t9 t10 t11 t12 t13 t14 t15 t16
theorem copI_next {i:Nat} {W0:World} {z0 z4 z17 z18 z19 z20 z21 z22 z23 z24 z25 z26 z27 z28 z29 z30 z31 z32 z33 z34 z35 z36:Value} (hLs:L.size=14) (hb:Below W0.heap.size W0 W') (S:CopS s A N a0 a2 a3 c0 c2 c3 (L.setIfInBounds i true) W' t3 t5 t6 t7 t8 t9 t10 t11 t12 t13 t14 t15 t16) :
  CopI s A N a0 a2 a3 c0 c2 c3 W0 (L.setIfInBounds i true) { tmps:=#[z0, .pointer (some ⟨A,0,none⟩), .pointer (some ⟨A+1,0,none⟩),t3,z4,t5,t6,t7,t8,t9,t10,t11,t12,t13,t14,t15,t16,z17,z18,z19,z20,z21,z22,z23,z24,z25,z26,z27,z28,z29,z30,z31,z32,z33,z34,z35,z36],defers:=[] } W' :=
 ⟨by simp [hLs],hb,_,_,_,_,_,_,_,_,_,_,_,_,_,_,_,_,_,_,_,_,_,_,_,_,_,_,_,_,_,_,_,_,_,_,_,rfl,S⟩
theorem gFz {L:Array Bool} {j:Nat} (hl:j<L.size) (h:L.getD j false=true->False):L.getD j true=false:=by
 simp only [Array.getD_eq_getD_getElem?,Array.getElem?_eq_getElem hl,Option.getD_some] at h ⊢;cases e:L[j]
 ·rfl
 ·exact (h e).elim
theorem own_of_empty {W:World} {q N sz:Nat} {T:TypeId} (hb:Bk W q #[] T) (h:N<=q):W.ownsRow N T sz (.slice (some ⟨q,0,none⟩) 0 0) 0 [] :=
 ⟨by simp, .inr ⟨q,0,#[],rfl,h,hb,Nat.le_refl _,by unfold maxLen;omega,by simp,by simp⟩⟩
theorem l31Copy_any {s:SS} {sp si sf sd:Value} {w:World} (h:Ses w sp si sf sd s) (hfew:fewS s) :
  Calls Tryz.prog 76 #[sv s.t.k s.t.n sp si sf sd] w fun e w'=>∃ sp' si' sf' sd',e= .returned (sv s.t.k s.t.n sp' si' sf' sd')/\SesO w' w.heap.size sp' si' sf' sd' s/\Below w.heap.size w w':=by
 have HS:=(show Hid (Ses w sp si sf sd s) from h);obtain ⟨a0,c0,a1,c1,a2,c2,a3,c3,rfl,rfl,rfl,rfl⟩:=h.sl;obtain ⟨f1,f2,f3,f4⟩:=hfew;have HW:=(show Hid (∀ l∈s.K,l.length<=1000) from f2);have bA:Bk ((w.alloc (.cells (sc s.t.k s.t.n (.slice a0 s.t.len c0) (.slice a1 s.K.length c1) (.slice a2 s.f.length c2) (.slice a3 s.d.length c3)) 30)).alloc (.cells #[.int .i64 0, .int .i64 0, .slice none 0 0, .slice none 0 0, .slice none 0 0, .slice none 0 0] 30)) w.heap.size (sc s.t.k s.t.n (.slice a0 s.t.len c0) (.slice a1 s.K.length c1) (.slice a2 s.f.length c2) (.slice a3 s.d.length c3)) 30:=(Bk.new _ _ rfl).alloc _;have bR:Bk ((w.alloc (.cells (sc s.t.k s.t.n (.slice a0 s.t.len c0) (.slice a1 s.K.length c1) (.slice a2 s.f.length c2) (.slice a3 s.d.length c3)) 30)).alloc (.cells #[.int .i64 0, .int .i64 0, .slice none 0 0, .slice none 0 0, .slice none 0 0, .slice none 0 0] 30)) (w.heap.size+1) #[.int .i64 0, .int .i64 0, .slice none 0 0, .slice none 0 0, .slice none 0 0, .slice none 0 0] 30:=Bk.new _ _ (by simp);have hb0:Below w.heap.size w ((w.alloc (.cells (sc s.t.k s.t.n (.slice a0 s.t.len c0) (.slice a1 s.K.length c1) (.slice a2 s.f.length c2) (.slice a3 s.d.length c3)) 30)).alloc (.cells #[.int .i64 0, .int .i64 0, .slice none 0 0, .slice none 0 0, .slice none 0 0, .slice none 0 0] 30)):=bAz (bAz (Below.refl _ _) _) _;have hz0:((w.alloc (.cells (sc s.t.k s.t.n (.slice a0 s.t.len c0) (.slice a1 s.K.length c1) (.slice a2 s.f.length c2) (.slice a3 s.d.length c3)) 30)).alloc (.cells #[.int .i64 0, .int .i64 0, .slice none 0 0, .slice none 0 0, .slice none 0 0, .slice none 0 0] 30)).heap.size=w.heap.size+2:=by simp
 have hS0:=h.keep hb0;clear h f2;go_enter Tryz.func76,Tryz.ntmps76;go_wp2_with fail;generalize ((w.alloc (.cells (sc s.t.k s.t.n (.slice a0 s.t.len c0) (.slice a1 s.K.length c1) (.slice a2 s.f.length c2) (.slice a3 s.d.length c3)) 30)).alloc (.cells #[.int .i64 0, .int .i64 0, .slice none 0 0, .slice none 0 0, .slice none 0 0, .slice none 0 0] 30))=W0 at *;have HX:Hid (∀ V:World,Below W0.heap.size W0 V->V.cell? ⟨w.heap.size,0,none⟩=some (.int .i64 s.t.k)/\V.cell? ⟨w.heap.size,1,none⟩=some (.int .i64 s.t.n)/\V.cell? ⟨w.heap.size,2,none⟩=some (.slice a0 s.t.len c0)/\V.cell? ⟨w.heap.size,3,none⟩=some (.slice a1 s.K.length c1)/\V.cell? ⟨w.heap.size,4,none⟩=some (.slice a2 s.f.length c2)/\V.cell? ⟨w.heap.size,5,none⟩=some (.slice a3 s.d.length c3)):=fun V hV=>(bA.keep hV).six;have HKD:Hid (∀ V:World,Below W0.heap.size W0 V->KdS 0 V s.t (.slice a0 s.t.len c0)):=fun V hV=>(hS0.keep hV).kd;have HQ:Hid (∀ V:World,Below W0.heap.size W0 V->Ts V (.slice a2 s.f.length c2) s.f/\Rs V (.slice a3 s.d.length c3) s.d):=fun V hV=>⟨(hS0.keep hV).ts,(hS0.keep hV).rs⟩;refine wp_region_inv (by kernel_rfl) (CopI s w.heap.size (w.heap.size+2) a0 a2 a3 c0 c2 c3 W0) ?hg ?hs ?h0 ?hstep ?hend
 case hg =>
  intro i o ho;have hi:i<14:=(Array.getElem?_eq_some_iff.1 ho).1;obtain rfl|rfl|rfl|rfl|rfl|rfl|rfl|rfl|rfl|rfl|rfl|rfl|rfl|rfl:i=0\/i=1\/i=2\/i=3\/i=4\/i=5\/i=6\/i=7\/i=8\/i=9\/i=10\/i=11\/i=12\/i=13:=by omega
  all_goals cases ho;rfl
 case hs=>intro L a W hI;exact hI.1
 case h0 =>
  refine ⟨by simp,(Below.refl _ _).drew,_,_,_,_,_,_,_,_,_,_,_,_,_,_,_,_,_,_,_,_,_,_,_,_,_,_,_,_,_,_,_,_,_,_,_,rfl,?_⟩;constructor<;>(intro e;simp at e)
 case hstep =>
  rintro L a W i o ⟨hLs,hb,z0,t3,z4,t5,t6,t7,t8,t9,t10,t11,t12,t13,t14,t15,t16,z17,z18,z19,z20,z21,z22,z23,z24,z25,z26,z27,z28,z29,z30,z31,z32,z33,z34,z35,z36,rfl,S⟩ hi ho;obtain ⟨hun,o',ho',hall⟩:=mem_ready.1 hi;rw [ho] at ho';cases ho';have hi14:i<14:=(Array.getElem?_eq_some_iff.1 ho).1;have hNW:w.heap.size+2<=W.heap.size:=by have:=hb.size;omega
  clear hi;generalize hK:(fun a' w'=>CopI s w.heap.size (w.heap.size+2) a0 a2 a3 c0 c2 c3 W0 (L.setIfInBounds i true) a' w')=K;obtain rfl|rfl|rfl|rfl|rfl|rfl|rfl|rfl|rfl|rfl|rfl|rfl|rfl|rfl:i=0\/i=1\/i=2\/i=3\/i=4\/i=5\/i=6\/i=7\/i=8\/i=9\/i=10\/i=11\/i=12\/i=13:=by omega
  ·cases ho;go_simp;subst hK;exact copI_next hLs hb (S.put0 rfl)
  ·cases ho;have e0:=S.s0 (hall ⟨0, .data⟩ (by simp) rfl);subst e0;obtain ⟨x0,x1,x2,x3,x4,x5⟩:=HX.out _ hb;go_simp;subst hK;exact copI_next hLs hb (S.put1 rfl)
  ·cases ho;have e1:=S.s1 (hall ⟨1, .data⟩ (by simp) rfl);subst e1;go_simp;refine (l31Plan_any s.t (HKD.out _ hb)).mono ?_;rintro e W1 ⟨ak,ck,rfl,kp,hb1⟩;subst hK;refine copI_next hLs (bSz hb hb1) ((S.keep hb1).put2 (fun e=>gN (S.c11 e).1 hun) (fun e=>gN (S.c11 (S.c13 e).1).1 hun) ⟨ak,ck,rfl,kp.wk fun g hg=>⟨by omega,fun e4 e5=>?_⟩⟩);obtain ⟨q,h1,h2,h3⟩:=S.s12 e4 (gFz (by omega) fun e=>gN (S.c11 (S.c13 e).1).1 hun);rw [h1] at e5;have:=h3.lt;exact ptr_ne (by omega) e5
  ·cases ho;go_simp;subst hK;exact copI_next hLs (bSz hb (bAz (Below.refl _ _) _)) ((S.keep (bAz (Below.refl _ _) _)).put3 hNW (Bk.new _ _ rfl))
  ·cases ho;go_simp;subst hK;exact copI_next hLs hb (S.put4 rfl)
  ·cases ho;have e0:=S.s4 (hall ⟨4, .data⟩ (by simp) rfl);subst e0;obtain ⟨x0,x1,x2,x3,x4,x5⟩:=HX.out _ hb;go_simp;subst hK;exact copI_next hLs hb (S.put5 rfl)
  ·cases ho;obtain ⟨q,e8,hq,hbq⟩:=S.s3 (hall ⟨3, .data⟩ (by simp) rfl) hun;subst e8;have e5:=S.s5 (hall ⟨5, .data⟩ (by simp) rfl);subst e5;refine wpTs_o _ rfl _ _ rfl (w.heap.size+2) (.slice (some ⟨q,0,none⟩) 0 0) [] rfl (own_of_empty hbq hq) _ s.f rfl (HQ.out _ hb).1 (by simp;omega) hNW ?_;intro v5 w5 own5 hg5;obtain ⟨x,y,rfl⟩:∃ a c,v5= .slice a s.f.length c:=own_slice2 (l:=s.f) own5;have own5':Own w5 (w.heap.size+2) (.slice x s.f.length y) s.f:=own5;subst hK;exact copI_next hLs (Below.grew hb hg5 (by omega) (fun z e=>by have:=own_q e;omega)) (S.put6 hLs (fun e=>gN (S.c11 e).2.1 hun) (fun e=>gN (S.c11 (S.c13 e).1).2.1 hun) hbq (fun z hz hne=>hg5.block z hz (fun e=>hne (own_q e.symm).symm)) own5')
  ·cases ho;go_simp;subst hK;exact copI_next hLs (bSz hb (bAz (Below.refl _ _) _)) ((S.keep (bAz (Below.refl _ _) _)).put7 hNW (Bk.new _ _ rfl))
  ·cases ho;go_simp;subst hK;exact copI_next hLs hb (S.put8 rfl)
  ·cases ho;have e0:=S.s8 (hall ⟨8, .data⟩ (by simp) rfl);subst e0;obtain ⟨x0,x1,x2,x3,x4,x5⟩:=HX.out _ hb;go_simp;subst hK;exact copI_next hLs hb (S.put9 rfl)
  ·cases ho;obtain ⟨q,e8,hq,hbq⟩:=S.s7 (hall ⟨7, .data⟩ (by simp) rfl) hun;subst e8;have e5:=S.s9 (hall ⟨9, .data⟩ (by simp) rfl);subst e5;refine wpRs_o _ rfl _ _ rfl (w.heap.size+2) (.slice (some ⟨q,0,none⟩) 0 0) [] rfl (own_of_empty hbq hq) _ s.d rfl (HQ.out _ hb).2 (by simp;omega) hNW ?_;intro v5 w5 own5 hg5;obtain ⟨x,y,rfl⟩:∃ a c,v5= .slice a s.d.length c:=by
    obtain ⟨a,c,e,_⟩:=Rs.open (OwnR.rs own5 (by simp;omega));exact ⟨a,c,by simpa using e⟩
   have own5':OwnR w5 (w.heap.size+2) (.slice x s.d.length y) s.d:=own5;subst hK;exact copI_next hLs (Below.grew hb hg5 (by omega) (fun z e=>by have:=own_q e;omega)) (S.put10 hLs (fun e=>gN (S.c11 e).2.2 hun) (fun e=>gN (S.c11 (S.c13 e).1).2.2 hun) hbq (fun z hz hne=>hg5.block z hz (fun e=>hne (own_q e.symm).symm)) own5')
  ·cases ho;have l2:=hall ⟨2, .data⟩ (by simp) rfl;have l6:=hall ⟨6, .data⟩ (by simp) rfl;have l10:=hall ⟨10, .data⟩ (by simp) rfl;obtain ⟨ak,ck,e7,-⟩:=S.s2 l2;obtain ⟨x,y,e11,-⟩:=S.s6 l6;obtain ⟨x',y',e15,-⟩:=S.s10 l10;subst e7 e11 e15;go_simp;subst hK;exact copI_next hLs hb (S.put11 ⟨l2,l6,l10⟩ ⟨ak,ck,x,y,x',y',rfl,rfl,rfl,rfl⟩)
  ·cases ho;go_simp;subst hK;exact copI_next hLs (bSz hb (bAz (Below.refl _ _) _)) (S.put12 (fun e=>gN (S.c13 e).2 hun) hNW (Bk.new _ _ rfl) (bAz (Below.refl _ _) _) rfl)
  ·cases ho;have l12:=hall ⟨12, .data⟩ (by simp) rfl;have l11:=hall ⟨11, .data⟩ (by simp) rfl;obtain ⟨q,e3,hq,bq⟩:=S.s12 l12 hun;obtain ⟨ak,ck,x,y,x',y',e16,e7,e11,e15⟩:=S.s11 l11;subst e3 e16 e7 e11 e15;have g0:=bq.free 0;have q1:=bq.set 0 (.int .i64 s.t.k);have g1:=q1.free 1;have q2:=q1.set 1 (.int .i64 s.t.n);have g2:=q2.free 2;have q3:=q2.set 2 (.slice ak s.t.len ck);have g3:=q3.free 3;have q4:=q3.set 3 nilV;have g4:=q4.free 4;have q5:=q4.set 4 (.slice x s.f.length y);have g5:=q5.free 5;have q6:Bk ((((((W.setCell ⟨q,0,none⟩ (.int .i64 s.t.k)).setCell ⟨q,1,none⟩ (.int .i64 s.t.n)).setCell ⟨q,2,none⟩ (.slice ak s.t.len ck)).setCell ⟨q,3,none⟩ (nilV)).setCell ⟨q,4,none⟩ (.slice x s.f.length y)).setCell ⟨q,5,none⟩ (.slice x' s.d.length y')) q #[.int .i64 s.t.k, .int .i64 s.t.n, .slice ak s.t.len ck,nilV, .slice x s.f.length y, .slice x' s.d.length y'] 30:=q5.set 5 (.slice x' s.d.length y');obtain ⟨y0,y1,y2,y3,y4,y5⟩:=bq.six;have hset:∀ z,z<W.heap.size->z≠q->((((((W.setCell ⟨q,0,none⟩ (.int .i64 s.t.k)).setCell ⟨q,1,none⟩ (.int .i64 s.t.n)).setCell ⟨q,2,none⟩ (.slice ak s.t.len ck)).setCell ⟨q,3,none⟩ (nilV)).setCell ⟨q,4,none⟩ (.slice x s.f.length y)).setCell ⟨q,5,none⟩ (.slice x' s.d.length y')).heap[z]?=W.heap[z]?:=fun z _ hz=>(((((Below.heap_setCell _ _ _ _ hz).trans (Below.heap_setCell _ _ _ _ hz)).trans (Below.heap_setCell _ _ _ _ hz)).trans (Below.heap_setCell _ _ _ _ hz)).trans (Below.heap_setCell _ _ _ _ hz)).trans (Below.heap_setCell _ _ _ _ hz);have hqW:W0.heap.size<=q:=by omega
   go_simp;subst hK;exact copI_next hLs ((((((hb.setCell hqW _).setCell hqW _).setCell hqW _).setCell hqW _).setCell hqW _).setCell hqW _) (S.put13 hLs l11 l12 rfl hq bq hset q6 rfl rfl rfl)
 case hend =>
  rintro L a W ⟨hLs,hb,z0,t3,z4,t5,t6,t7,t8,t9,t10,t11,t12,t13,t14,t15,t16,z17,z18,z19,z20,z21,z22,z23,z24,z25,z26,z27,z28,z29,z30,z31,z32,z33,z34,z35,z36,rfl,S⟩ hr;have hallL:∀ j,j<14->L.getD j false=true:=by
   refine all_listed2 (by simpa using hLs) ?_ hr;intro i o ho;have hi:i<14:=(Array.getElem?_eq_some_iff.1 ho).1;obtain rfl|rfl|rfl|rfl|rfl|rfl|rfl|rfl|rfl|rfl|rfl|rfl|rfl|rfl:i=0\/i=1\/i=2\/i=3\/i=4\/i=5\/i=6\/i=7\/i=8\/i=9\/i=10\/i=11\/i=12\/i=13:=by omega
   all_goals cases ho
   all_goals (first|(simp;done)|(simp [Region.binds];done)|decide)
  obtain ⟨q,ak,ck,x,y,x',y',e3,hNq,bN,e7,e11,e15⟩:=S.s13 (hallL 13 (by omega));obtain ⟨ak',ck',e7',kp⟩:=S.s2 (hallL 2 (by omega));obtain ⟨x1,y1,e11',own1⟩:=S.s6 (hallL 6 (by omega));obtain ⟨x2,y2,e15',own2⟩:=S.s10 (hallL 10 (by omega));have l12:=hallL 12 (by omega);rw [e7] at e7';rw [e11] at e11';rw [e15] at e15';obtain ⟨rfl,-,rfl⟩:ak=ak'/\True/\ck=ck':=by simp at e7';exact ⟨e7'.1,trivial,e7'.2⟩
  obtain ⟨rfl,rfl⟩:x=x1/\y=y1:=by simp at e11';exact e11'
  obtain ⟨rfl,rfl⟩:x'=x2/\y'=y2:=by simp at e15';exact e15'
  subst e3;have HI0:Hid (SlI s w (sc s.t.k s.t.n (.slice a0 s.t.len c0) (.slice a1 s.K.length c1) (.slice a2 s.f.length c2) (.slice a3 s.d.length c3)) q W.heap.size 0 (.slice ak s.t.len ck) (.slice x s.f.length y) (.slice x' s.d.length y') s.f s.d W) :=
   ⟨Nat.zero_le _,⟨_,[],oN _ _ _ _ _,EoR.nil _ _,bN⟩,kp.move fun g hg hl=>⟨⟨hg.1,hl,fun e=>hg.2 l12 (by rw [e])⟩,rfl⟩,own1,own2,bA.keep hb,bR.keep hb,hNq,bN.lt,bSz hb0 hb⟩
  have hMW:W.heap.size<=W.heap.size:=Nat.le_refl _;obtain ⟨x0,x1,x2,x3,x4,x5⟩:=HX.out _ hb;clear hallL S hr l12 kp own1 own2 bN bA bR hS0 e7' e11' e15' e7 e11 e15 hLs;go_wp2_with fail;clear x0 x1 x2 x3 x4 x5;generalize hKids:(Value.slice ak s.t.len ck)=kids at *;obtain ⟨M,hM⟩:∃ M,M=W.heap.size:=⟨_,rfl⟩;rw [<- hM] at HI0;have hMle:w.heap.size+2<=M:=by have:=hb.size;omega
  go_loopw [4] (fun i wr=>∃ k:Nat,i= .int .i64 k/\SlI s w (sc s.t.k s.t.n (.slice a0 s.t.len c0) (.slice a1 s.K.length c1) (.slice a2 s.f.length c2) (.slice a3 s.d.length c3)) q M k kids (.slice x s.f.length y) (.slice x' s.d.length y') s.f s.d wr/\M<=wr.heap.size) (fun i _=>s.K.length-(intOf i).toNat)
  case atStart=>exact ⟨0,rfl,HI0.out,by omega⟩
  case round =>
   clear HI0 hb hM HX HKD HQ;obtain ⟨k,rfl,hI,hMr⟩:=hrel;obtain ⟨hkl,⟨lv,vs,hov,heo,bB⟩,hkp,hot,hor,bA,bR,hord,hoM,hb⟩:=hI;have HO:=(show Hid (OwnVR wr M lv vs) from hov);have HE:=(show Hid (EoR wr M vs (s.K.take k)) from heo);have HKP:=(show Hid (KdP (fun g=>w.heap.size+2<=g/\g<M/\g≠q) wr s.t kids) from hkp);have HV:Hid (vs.length=k):=by show _=_;rw [heo.1,List.length_take];omega
   clear hov heo hkp;obtain ⟨av,nv,cv,elv⟩:∃ a n c,lv= .slice a n c:=by
    obtain ⟨a,c,e,-⟩:=OwnVR.vs HO.out (by have:=HV.out;omega);exact ⟨a,_,c,e⟩
   subst elv;obtain ⟨x0,x1,x2,x3,x4,x5⟩:=bA.six
   by_cases hlt:k<s.K.length
   ·obtain ⟨l,hl'⟩:∃ l,s.K[k]?=some l:=⟨_,List.getElem?_eq_getElem hlt⟩;obtain ⟨a',cap',e',-,-,-,hcell⟩:=(HS.out.keep hb).ly.open;cases e';obtain ⟨g,off,ad,cp,rfl,hgl,c00,hR⟩:=hcell k l hl';have ik:((k:Int)<(s.K.length:Int)):=by omega
    have HL:=(show Hid (s.K[k]?=some l) from hl');have hll:l.length<=1000:=HW.out l (List.mem_of_getElem? hl');have HB:=(show Hid (Bk wr q #[.int .i64 s.t.k, .int .i64 s.t.n,kids, .slice av nv cv, .slice x s.f.length y, .slice x' s.d.length y'] 30) from bB);have HA:=(show Hid (Bk wr w.heap.size (sc s.t.k s.t.n (.slice a0 s.t.len c0) (.slice (some ⟨g,off,none⟩) s.K.length c1) (.slice a2 s.f.length c2) (.slice a3 s.d.length c3)) 30) from bA);have HR:=(show Hid (Bk wr (w.heap.size+1) #[.int .i64 0, .int .i64 0, .slice none 0 0, .slice none 0 0, .slice none 0 0, .slice none 0 0] 30) from bR);have HC:Hid (∀ V,Below wr.heap.size wr V->V.cell? ⟨q,3,none⟩=some (.slice av nv cv)/\V.cell? ⟨w.heap.size,3,none⟩=some (.slice (some ⟨g,off,none⟩) s.K.length c1)/\V.cell? ⟨g,off+k,none⟩=some (.slice ad l.length cp)):=fun V hV=>⟨(bB.keep hV).six.2.2.2.1,(bA.keep hV).six.2.2.2.1,cB hV c00⟩;have hd:Below wr.heap.size wr wr.drew:=(Below.refl _ _).drew;have hbA:Below wr.heap.size wr (wr.alloc (.cells #[] 55)):=bAz (Below.refl _ _) _;have hbE:Below wr.heap.size wr ((wr.alloc (.cells #[] 55)).drew):=hbA.drew;have OE:OwnR ((wr.alloc (.cells #[] 55)).drew) wr.heap.size (.slice (some ⟨wr.heap.size,0,none⟩) 0 0) []:=oEz wr rfl;have zE:wr.heap.size<=((wr.alloc (.cells #[] 55)).drew).heap.size:=hbE.size;have RE:Rs ((wr.alloc (.cells #[] 55)).drew) (.slice ad l.length cp) l:=hR.keep hbE;clear hcell hl' hR bA bB bR x0 x1 x2 x4 x5;go_wp2_with fail;obtain ⟨i0,i1,i2⟩:=HC.out _ (Below.refl _ _);obtain ⟨j0,j1,j2⟩:=HC.out _ hd;obtain ⟨k0,k1,k2⟩:=HC.out _ hbA;obtain ⟨l0,l1,l2⟩:=HC.out _ hbE
    go_region_law (first
     | (refine stepRs _ rfl _ _ rfl wr.heap.size _ [] rfl OE _ l rfl RE (by simp;omega) zE ?_;intro v7 w7 own7 hg7;obtain ⟨a7,c7,rfl⟩:∃ a c,v7= .slice a l.length c:=(by obtain ⟨a,c,e,_⟩:=Rs.open (OwnR.rs own7 (by simp;omega));exact ⟨a,c,by simpa using e⟩);have own7':OwnR w7 wr.heap.size (.slice a7 l.length c7) l:=own7;have hb7:Below wr.heap.size wr w7:=Below.grew hbE hg7 zE (oB OE);have hb8:Below wr.heap.size wr (w7.alloc (.cells #[.slice a7 l.length c7] 28)):=bAz hb7 _;have O8:OwnVR (w7.alloc (.cells #[.slice a7 l.length c7] 28)) M (.slice av nv cv) vs:=oK HO.out hb8;have B8:Bk (w7.alloc (.cells #[.slice a7 l.length c7] 28)) w7.heap.size #[.slice a7 l.length c7] 28:=Bk.new _ _ rfl;have hz8:M<=(w7.alloc (.cells #[.slice a7 l.length c7] 28)).heap.size:=Nat.le_trans hMr hb8.size;obtain ⟨m0,m1,m2⟩:=HC.out _ hb7;obtain ⟨n0,n1,n2⟩:=HC.out _ hb8;have hu8:OwnR (w7.alloc (.cells #[.slice a7 l.length c7] 28)) wr.heap.size (.slice a7 l.length c7) l:=own7'.alloc _)
     | (refine stepVR _ rfl _ _ rfl M (.slice av nv cv) vs rfl O8 _ _ _ _ rfl B8 (by have:=HV.out;omega) hz8 ?_;intro g9 cap9 w9 own9 hg9 hl9;have b9:=(HB.out.keep hb8).grew hg9 (fun z e=>by obtain ⟨d,hd'⟩:=ownVR_cells O8 e;exact bK (HB.out.keep hb8) hd' (by decide));obtain ⟨r0,r1,r2,r3,r4,r5⟩:=b9.six;have fr3:=b9.free 3))
    all_goals
     have HN:Hid (SlI s w (sc s.t.k s.t.n (.slice a0 s.t.len c0) (.slice (some ⟨g,off,none⟩) s.K.length c1) (.slice a2 s.f.length c2) (.slice a3 s.d.length c3)) q M (k+1) kids (.slice x s.f.length y) (.slice x' s.d.length y') s.f s.d (w9.setCell ⟨q,3,none⟩ (.slice (some ⟨g9,0,none⟩) (vs.length+1) cap9))/\M<=(w9.setCell ⟨q,3,none⟩ (.slice (some ⟨g9,0,none⟩) (vs.length+1) cap9)).heap.size):=⟨slI_step HL.out (by omega) HO.out HE.out HB.out HKP.out hot hor HA.out HR.out hord hoM hb hMr hb8 hu8 own9 hg9,by have:=hg9.size;simp [World.setCell];omega⟩;have HLT:Hid (k<s.K.length):=hlt;clear own9 hg9 hl9 b9 r0 r1 r2 r3 r4 r5 fr3 own7 own7' hg7 hb7 hb8 O8 B8 hz8 m0 m1 m2 n0 n1 n2 hu8 i0 i1 i2 j0 j1 j2 k0 k1 k2 l0 l1 l2 hlt c00 x3;generalize w9.setCell ⟨q,3,none⟩ (.slice (some ⟨g9,0,none⟩) (vs.length+1) cap9)=wN at *;go_wp2_with fail;go_roundw
     case rel=>exact ⟨k+1,by go_num,HN.out⟩
     case measure=>have:=HLT.out;simp [intOf];omega
   ·obtain rfl:k=s.K.length:=by omega
    have ik:¬ ((s.K.length:Int)<(s.K.length:Int)):=by omega
    have hov8:=HO.out;have heo8:=HE.out;rw [List.take_length] at heo8;have hkp8:=HKP.out;obtain ⟨kk,kn,kc,ekids⟩:∃ a n c,kids= .slice a n c:=⟨_,_,_,hKids.symm⟩;clear hKids HO HE HKP;subst ekids;obtain ⟨w0,w1,w2,w3,w4,w5⟩:=bB.six;obtain ⟨y0,y1,y2,y3,y4,y5⟩:=bR.six;have g0:=bR.free 0;have q1:=bR.set 0 (.int .i64 s.t.k);have g1:=q1.free 1;have q2:=q1.set 1 (.int .i64 s.t.n);have g2:=q2.free 2;have q3:=q2.set 2 (.slice kk kn kc);have g3:=q3.free 3;have q4:=q3.set 3 (.slice av nv cv);have g4:=q4.free 4;have q5:=q4.set 4 (.slice x s.f.length y);have g5:=q5.free 5;have q6:Bk ((((((wr.setCell ⟨w.heap.size+1,0,none⟩ (.int .i64 s.t.k)).setCell ⟨w.heap.size+1,1,none⟩ (.int .i64 s.t.n)).setCell ⟨w.heap.size+1,2,none⟩ (.slice kk kn kc)).setCell ⟨w.heap.size+1,3,none⟩ (.slice av nv cv)).setCell ⟨w.heap.size+1,4,none⟩ (.slice x s.f.length y)).setCell ⟨w.heap.size+1,5,none⟩ (.slice x' s.d.length y')) (w.heap.size+1) #[.int .i64 s.t.k, .int .i64 s.t.n, .slice kk kn kc, .slice av nv cv, .slice x s.f.length y, .slice x' s.d.length y'] 30:=q5.set 5 (.slice x' s.d.length y');obtain ⟨r0,r1,r2,r3,r4,r5⟩:=q6.six;have hset:∀ z,z≠w.heap.size+1->((((((wr.setCell ⟨w.heap.size+1,0,none⟩ (.int .i64 s.t.k)).setCell ⟨w.heap.size+1,1,none⟩ (.int .i64 s.t.n)).setCell ⟨w.heap.size+1,2,none⟩ (.slice kk kn kc)).setCell ⟨w.heap.size+1,3,none⟩ (.slice av nv cv)).setCell ⟨w.heap.size+1,4,none⟩ (.slice x s.f.length y)).setCell ⟨w.heap.size+1,5,none⟩ (.slice x' s.d.length y')).heap[z]?=wr.heap[z]?:=fun z hz=>(((((Below.heap_setCell _ _ _ _ hz).trans (Below.heap_setCell _ _ _ _ hz)).trans (Below.heap_setCell _ _ _ _ hz)).trans (Below.heap_setCell _ _ _ _ hz)).trans (Below.heap_setCell _ _ _ _ hz)).trans (Below.heap_setCell _ _ _ _ hz);have HF:Hid (SesO ((((((wr.setCell ⟨w.heap.size+1,0,none⟩ (.int .i64 s.t.k)).setCell ⟨w.heap.size+1,1,none⟩ (.int .i64 s.t.n)).setCell ⟨w.heap.size+1,2,none⟩ (.slice kk kn kc)).setCell ⟨w.heap.size+1,3,none⟩ (.slice av nv cv)).setCell ⟨w.heap.size+1,4,none⟩ (.slice x s.f.length y)).setCell ⟨w.heap.size+1,5,none⟩ (.slice x' s.d.length y')) w.heap.size (.slice kk kn kc) (.slice av nv cv) (.slice x s.f.length y) (.slice x' s.d.length y') s):=by
     refine ⟨hkp8.move fun z hz _=>⟨⟨by omega,fun e=>by have:=oB hov8 z e;omega⟩,hset z (by omega)⟩,⟨vs,oLz (oAz hov8 fun z e=>hset z (by have:=oB hov8 z e;omega)) (by omega),?_⟩,oLz (oAz hot fun z e=>hset z (by have:=oB hot z e;omega)) (by omega),oLz (oAz hor fun z e=>hset z (by have:=oB hor z e;omega)) (by omega)⟩;refine EoR.less ⟨heo8.1,fun i u l h1 h2=>?_,heo8.2.2⟩ (show w.heap.size<=M by omega);have ho:=heo8.2.1 i u l h1 h2;exact oAz ho fun z e=>hset z (by have:=oB ho z e;omega)
    have HBF:Hid (Below w.heap.size w ((((((wr.setCell ⟨w.heap.size+1,0,none⟩ (.int .i64 s.t.k)).setCell ⟨w.heap.size+1,1,none⟩ (.int .i64 s.t.n)).setCell ⟨w.heap.size+1,2,none⟩ (.slice kk kn kc)).setCell ⟨w.heap.size+1,3,none⟩ (.slice av nv cv)).setCell ⟨w.heap.size+1,4,none⟩ (.slice x s.f.length y)).setCell ⟨w.heap.size+1,5,none⟩ (.slice x' s.d.length y'))):=(((((hb.setCell (by simp) _).setCell (by simp) _).setCell (by simp) _).setCell (by simp) _).setCell (by simp) _).setCell (by simp) _;clear hov8 heo8 hot hor hkp8 bB bR hb hset q1 q2 q3 q4 q5 q6;go_wp2_with fail;refine bodyPost_ret (v:=sv s.t.k s.t.n (.slice kk kn kc) (.slice av nv cv) (.slice x s.f.length y) (.slice x' s.d.length y')) (by simp [results,Tryz.results76,go_sem,r0,r1,r2,r3,r4,r5];try rfl) rfl ?_;exact ⟨_,_,_,_,rfl,HF.out,HBF.out⟩
end Go.Proofs.YtbdpcngcbnoioaaGreatDoor
namespace Go.Proofs.YtbdpcngcbnoioaaGreatDoor
open Go.RowKit
end Go.Proofs.YtbdpcngcbnoioaaGreatDoor
namespace Go.Proofs.YtbdpcngcbnoioaaGreatDoor
open Go.RowKit
end Go.Proofs.YtbdpcngcbnoioaaGreatDoor
namespace Go.Proofs.YtbdpcngcbnoioaaGreatDoor
open Go.RowKit Go.Shelf
attribute [local go_sem ↓] Go.wp_at_zero Go.wp_at_succ
variable {t:PT} {A N:Nat} {a0:Option Addr} {c0:Nat} {L:Array Bool} {W W':World} {t3 t8 t9 t10 t11 t12 t13:Value}
end Go.Proofs.YtbdpcngcbnoioaaGreatDoor
namespace Go.Proofs.YtbdpcngcbnoioaaGreatDoor
open Go.RowKit Go.Shelf
def SesN (w:World) (p:Nat->Prop) (sp si sf sd:Value) (s:SS):Prop:=∀ V:World,(∀ z,p z->z<w.heap.size->V.heap[z]?=w.heap[z]?)->Ses V sp si sf sd s
section
variable {w w1:World} {p q:Nat->Prop} {sp si sf sd:Value} {s:SS}
theorem SesN.ses (h:SesN w p sp si sf sd s):Ses w sp si sf sd s:=h w fun _ _ _=>rfl
theorem SesN.move (h:SesN w p sp si sf sd s) (H:∀ z,p z->z<w.heap.size->q z/\w1.heap[z]?=w.heap[z]?) (hs:w.heap.size<=w1.heap.size):SesN w1 q sp si sf sd s:=fun V hV =>
 h V fun z hz hl=>(hV z (H z hz hl).1 (Nat.lt_of_lt_of_le hl hs)).trans (H z hz hl).2
theorem SesN.keep (h:SesN w p sp si sf sd s) (hb:Below w.heap.size w w1):SesN w1 p sp si sf sd s:=h.move (fun z hz hl=>⟨hz,hb.block z hl⟩) hb.size
theorem SesN.wk (h:SesN w p sp si sf sd s) (H:∀ z,p z->z<w.heap.size->q z):SesN w q sp si sf sd s:=h.move (fun z hz hl=>⟨H z hz hl,rfl⟩) (Nat.le_refl _)
end
theorem SesO.agree {w V:World} {B:Nat} {sp si sf sd:Value} {s:SS} (h:SesO w B sp si sf sd s) (hv:∀ z,B<=z->z<w.heap.size->V.heap[z]?=w.heap[z]?):SesO V B sp si sf sd s:=by
 obtain ⟨vs,h1,h2⟩:=h.ly;exact ⟨h.kd.move fun g hg hl=>⟨hg,hv g hg.1 hl⟩,⟨vs,oAz h1 fun z e=>hv z (oB h1 z e) (oT h1 z e),h2.1,fun i u l e1 e2=>oAz (h2.2.1 i u l e1 e2) fun z e=>hv z (oB (h2.2.1 i u l e1 e2) z e) (oT (h2.2.1 i u l e1 e2) z e),h2.2.2⟩,
  oAz h.ts fun z e=>hv z (oB h.ts z e) (oT h.ts z e),oAz h.rs fun z e=>hv z (oB h.rs z e) (oT h.rs z e)⟩
attribute [local go_sem ↓] Go.wp_at_zero Go.wp_at_succ
attribute [local go_sem ↓] Go.wp_at_zero Go.wp_at_succ
def zeroS:SS:=⟨.n0 0 0,[],[],[]⟩
theorem zero_ses (w:World):Ses w nilV nilV nilV nilV zeroS :=
 ⟨⟨none,0,rfl⟩,⟨[],ownK_sl (oN oneR 1 28 w 0) oneR_len (by simp),rfl,fun i u l h=>by simp at h⟩,Own.ts (oN _ _ _ w 0) (Nat.zero_le _),OwnR.rs (oN rowC 5 55 w 0) (Nat.zero_le _)⟩
theorem rs_nil (w:World) (a:Option Addr):Rs w (.slice a 0 0) []:=⟨a,0,rfl,Nat.le_refl _,by unfold maxLen;omega,by simp,fun i x hi=>by simp at hi⟩
end Go.Proofs.YtbdpcngcbnoioaaGreatDoor
namespace Go.Proofs.YtbdpcngcbnoioaaGreatDoor
open Go.RowKit Go.Shelf
attribute [local go_sem ↓] Go.wp_at_zero Go.wp_at_succ
theorem allMade_eq (ea:Addr) {s:SS} {sp si sf sd:Value} {w:World} {b:Bool} {r:List Rw} (hb:(allS s).isSome=b) (hr:(allS s).getD []=r) (hsm:s.t.sm) (h:Ses w sp si sf sd s) (hg:w.cell? ⟨0,0,none⟩=some (erV ea)) :
  Calls Tryz.prog 79 #[sv s.t.k s.t.n sp si sf sd] w fun e w'=>∃ (a:Option Addr) (c:Nat),e= .returned (.tuple #[.slice a r.length c, .bool b])/\Rs w' (.slice a r.length c) r/\Below w.heap.size w w':=by
 subst hb hr;exact allMade_any ea hsm h hg
structure OnS (A q N:Nat) (c:Array Value) (VN gt dv:Value) (d1 d2:List Rw) (L:Array Bool) (W:World) (t5 t6 t39 t40 t41 t42 t43 t44 t45:Value):Prop where
 s0:L.getD 0 false=true->t39=VN
 s1:L.getD 1 false=true->t40= .pointer (some ⟨q,5,none⟩)
 s2:L.getD 2 false=true->t41=gt
 s3:L.getD 3 false=true->t42= .pointer (some ⟨A,5,none⟩)
 s4:L.getD 4 false=true->t43=dv
 s5:L.getD 5 false=true->OwnR W N t44 d1
 s6:L.getD 6 false=true->OwnR W N t45 d2
 s7:L.getD 7 false=true->Bk W (A+1) c 30
 s8:L.getD 8 false=true->t5=t45
 s9:L.getD 9 false=true->t6= .bool true
 z:L.getD 7 true=false->Bk W (A+1) #[.int .i64 0, .int .i64 0, .slice none 0 0, .slice none 0 0, .slice none 0 0, .slice none 0 0] 30
 c8:L.getD 8 false=true->L.getD 6 false=true
variable {A q N:Nat} {c:Array Value} {VN gt dv:Value} {d1 d2:List Rw} {L:Array Bool} {W W':World} {t5 t6 t39 t40 t41 t42 t43 t44 t45:Value}
theorem OnS.keep (h:OnS A q N c VN gt dv d1 d2 L W t5 t6 t39 t40 t41 t42 t43 t44 t45) (hb:Below W.heap.size W W'):OnS A q N c VN gt dv d1 d2 L W' t5 t6 t39 t40 t41 t42 t43 t44 t45 where
 s0:=h.s0
 s1:=h.s1
 s2:=h.s2
 s3:=h.s3
 s4:=h.s4
 s5:=fun e=>oK (h.s5 e) hb
 s6:=fun e=>oK (h.s6 e) hb
 s7:=fun e=>(h.s7 e).keep hb
 s8:=h.s8
 s9:=h.s9
 z:=fun e=>(h.z e).keep hb
 c8:=h.c8
theorem OnS.put0 {u:Value} (h:OnS A q N c VN gt dv d1 d2 L W t5 t6 t39 t40 t41 t42 t43 t44 t45) (hu:u=VN):OnS A q N c VN gt dv d1 d2 (L.setIfInBounds 0 true) W t5 t6 u t40 t41 t42 t43 t44 t45 where
 s0:=fun _=>hu
 s1:=fun e=>h.s1 (gS e)
 s2:=fun e=>h.s2 (gS e)
 s3:=fun e=>h.s3 (gS e)
 s4:=fun e=>h.s4 (gS e)
 s5:=fun e=>h.s5 (gS e)
 s6:=fun e=>h.s6 (gS e)
 s7:=fun e=>h.s7 (gS e)
 s8:=fun e=>h.s8 (gS e)
 s9:=fun e=>h.s9 (gS e)
 z:=fun e=>h.z (gT e)
 c8:=fun e=>getD_upV (h.c8 (gS e))
theorem OnS.put1 {u:Value} (h:OnS A q N c VN gt dv d1 d2 L W t5 t6 t39 t40 t41 t42 t43 t44 t45) (hu:u= .pointer (some ⟨q,5,none⟩)):OnS A q N c VN gt dv d1 d2 (L.setIfInBounds 1 true) W t5 t6 t39 u t41 t42 t43 t44 t45 where
 s0:=fun e=>h.s0 (gS e)
 s1:=fun _=>hu
 s2:=fun e=>h.s2 (gS e)
 s3:=fun e=>h.s3 (gS e)
 s4:=fun e=>h.s4 (gS e)
 s5:=fun e=>h.s5 (gS e)
 s6:=fun e=>h.s6 (gS e)
 s7:=fun e=>h.s7 (gS e)
 s8:=fun e=>h.s8 (gS e)
 s9:=fun e=>h.s9 (gS e)
 z:=fun e=>h.z (gT e)
 c8:=fun e=>getD_upV (h.c8 (gS e))
theorem OnS.put2 {u:Value} (h:OnS A q N c VN gt dv d1 d2 L W t5 t6 t39 t40 t41 t42 t43 t44 t45) (hu:u=gt):OnS A q N c VN gt dv d1 d2 (L.setIfInBounds 2 true) W t5 t6 t39 t40 u t42 t43 t44 t45 where
 s0:=fun e=>h.s0 (gS e)
 s1:=fun e=>h.s1 (gS e)
 s2:=fun _=>hu
 s3:=fun e=>h.s3 (gS e)
 s4:=fun e=>h.s4 (gS e)
 s5:=fun e=>h.s5 (gS e)
 s6:=fun e=>h.s6 (gS e)
 s7:=fun e=>h.s7 (gS e)
 s8:=fun e=>h.s8 (gS e)
 s9:=fun e=>h.s9 (gS e)
 z:=fun e=>h.z (gT e)
 c8:=fun e=>getD_upV (h.c8 (gS e))
theorem OnS.put3 {u:Value} (h:OnS A q N c VN gt dv d1 d2 L W t5 t6 t39 t40 t41 t42 t43 t44 t45) (hu:u= .pointer (some ⟨A,5,none⟩)):OnS A q N c VN gt dv d1 d2 (L.setIfInBounds 3 true) W t5 t6 t39 t40 t41 u t43 t44 t45 where
 s0:=fun e=>h.s0 (gS e)
 s1:=fun e=>h.s1 (gS e)
 s2:=fun e=>h.s2 (gS e)
 s3:=fun _=>hu
 s4:=fun e=>h.s4 (gS e)
 s5:=fun e=>h.s5 (gS e)
 s6:=fun e=>h.s6 (gS e)
 s7:=fun e=>h.s7 (gS e)
 s8:=fun e=>h.s8 (gS e)
 s9:=fun e=>h.s9 (gS e)
 z:=fun e=>h.z (gT e)
 c8:=fun e=>getD_upV (h.c8 (gS e))
theorem OnS.put4 {u:Value} (h:OnS A q N c VN gt dv d1 d2 L W t5 t6 t39 t40 t41 t42 t43 t44 t45) (hu:u=dv):OnS A q N c VN gt dv d1 d2 (L.setIfInBounds 4 true) W t5 t6 t39 t40 t41 t42 u t44 t45 where
 s0:=fun e=>h.s0 (gS e)
 s1:=fun e=>h.s1 (gS e)
 s2:=fun e=>h.s2 (gS e)
 s3:=fun e=>h.s3 (gS e)
 s4:=fun _=>hu
 s5:=fun e=>h.s5 (gS e)
 s6:=fun e=>h.s6 (gS e)
 s7:=fun e=>h.s7 (gS e)
 s8:=fun e=>h.s8 (gS e)
 s9:=fun e=>h.s9 (gS e)
 z:=fun e=>h.z (gT e)
 c8:=fun e=>getD_upV (h.c8 (gS e))
theorem OnS.put5 {u:Value} (h:OnS A q N c VN gt dv d1 d2 L W t5 t6 t39 t40 t41 t42 t43 t44 t45) (hu:OwnR W N u d1):OnS A q N c VN gt dv d1 d2 (L.setIfInBounds 5 true) W t5 t6 t39 t40 t41 t42 t43 u t45 where
 s0:=fun e=>h.s0 (gS e)
 s1:=fun e=>h.s1 (gS e)
 s2:=fun e=>h.s2 (gS e)
 s3:=fun e=>h.s3 (gS e)
 s4:=fun e=>h.s4 (gS e)
 s5:=fun _=>hu
 s6:=fun e=>h.s6 (gS e)
 s7:=fun e=>h.s7 (gS e)
 s8:=fun e=>h.s8 (gS e)
 s9:=fun e=>h.s9 (gS e)
 z:=fun e=>h.z (gT e)
 c8:=fun e=>getD_upV (h.c8 (gS e))
theorem OnS.put6 {u:Value} (hL:L.getD 8 false=true->False) (h:OnS A q N c VN gt dv d1 d2 L W t5 t6 t39 t40 t41 t42 t43 t44 t45) (hu:OwnR W N u d2):OnS A q N c VN gt dv d1 d2 (L.setIfInBounds 6 true) W t5 t6 t39 t40 t41 t42 t43 t44 u where
 s0:=fun e=>h.s0 (gS e)
 s1:=fun e=>h.s1 (gS e)
 s2:=fun e=>h.s2 (gS e)
 s3:=fun e=>h.s3 (gS e)
 s4:=fun e=>h.s4 (gS e)
 s5:=fun e=>h.s5 (gS e)
 s6:=fun _=>hu
 s7:=fun e=>h.s7 (gS e)
 s8:=fun e=>(hL (gS e)).elim
 s9:=fun e=>h.s9 (gS e)
 z:=fun e=>h.z (gT e)
 c8:=fun e=>getD_upV (h.c8 (gS e))
theorem OnS.put8 {u:Value} (hl6:L.getD 6 false=true) (h:OnS A q N c VN gt dv d1 d2 L W t5 t6 t39 t40 t41 t42 t43 t44 t45) (hu:u=t45):OnS A q N c VN gt dv d1 d2 (L.setIfInBounds 8 true) W u t6 t39 t40 t41 t42 t43 t44 t45 where
 s0:=fun e=>h.s0 (gS e)
 s1:=fun e=>h.s1 (gS e)
 s2:=fun e=>h.s2 (gS e)
 s3:=fun e=>h.s3 (gS e)
 s4:=fun e=>h.s4 (gS e)
 s5:=fun e=>h.s5 (gS e)
 s6:=fun e=>h.s6 (gS e)
 s7:=fun e=>h.s7 (gS e)
 s8:=fun _=>hu
 s9:=fun e=>h.s9 (gS e)
 z:=fun e=>h.z (gT e)
 c8:=fun e=>getD_upV (hl6)
theorem OnS.put9 {u:Value} (h:OnS A q N c VN gt dv d1 d2 L W t5 t6 t39 t40 t41 t42 t43 t44 t45) (hu:u= .bool true):OnS A q N c VN gt dv d1 d2 (L.setIfInBounds 9 true) W t5 u t39 t40 t41 t42 t43 t44 t45 where
 s0:=fun e=>h.s0 (gS e)
 s1:=fun e=>h.s1 (gS e)
 s2:=fun e=>h.s2 (gS e)
 s3:=fun e=>h.s3 (gS e)
 s4:=fun e=>h.s4 (gS e)
 s5:=fun e=>h.s5 (gS e)
 s6:=fun e=>h.s6 (gS e)
 s7:=fun e=>h.s7 (gS e)
 s8:=fun e=>h.s8 (gS e)
 s9:=fun _=>hu
 z:=fun e=>h.z (gT e)
 c8:=fun e=>getD_upV (h.c8 (gS e))
theorem OnS.put7 (hLs:L.size=10) (hN:A+1<N) (h:OnS A q N c VN gt dv d1 d2 L W t5 t6 t39 t40 t41 t42 t43 t44 t45) (hx:∀ x,x≠A+1->W'.heap[x]?=W.heap[x]?) (hu:Bk W' (A+1) c 30):OnS A q N c VN gt dv d1 d2 (L.setIfInBounds 7 true) W' t5 t6 t39 t40 t41 t42 t43 t44 t45 where
 s0:=fun e=>h.s0 (gS e)
 s1:=fun e=>h.s1 (gS e)
 s2:=fun e=>h.s2 (gS e)
 s3:=fun e=>h.s3 (gS e)
 s4:=fun e=>h.s4 (gS e)
 s5:=fun e=>by have o:=h.s5 (gS e);exact oAz o fun z e=>hx z (by have:=oB o z e;omega)
 s6:=fun e=>by have o:=h.s6 (gS e);exact oAz o fun z e=>hx z (by have:=oB o z e;omega)
 s7:=fun _=>hu
 s8:=fun e=>h.s8 (gS e)
 s9:=fun e=>h.s9 (gS e)
 z:=fun e2=>absurd e2 (by rw [gH (by omega)];decide)
 c8:=fun e=>getD_upV (h.c8 (gS e))
def OnI (A q N:Nat) (c:Array Value) (VN gt dv:Value) (d1 d2:List Rw) (W0:World) (L:Array Bool) (a:Act) (W:World):Prop :=
 L.size=10/\Bx (A+1) W0 W/\∃ z0 z1 z3 z7 z8 z10 z11 z12 z13 z14 z15 z16 z17 z18 z19 z20 z21 z22 z23 z24 z25 z26 z27 z28 z29 z30 z31 z32 z33 z34 z35 z36 z37 z38 t5 t6 t39 t40 t41 t42 t43 t44 t45:Value,
  a={ tmps:=#[z0,z1, .pointer (some ⟨A,0,none⟩),z3, .pointer (some ⟨A+1,0,none⟩),t5,t6,z7,z8, .pointer (some ⟨q,0,none⟩),z10,z11,z12,z13,z14,z15,z16,z17,z18,z19,z20,z21,z22,z23,z24,z25,z26,z27,z28,z29,z30,z31,z32,z33,z34,z35,z36,z37,z38,t39,t40,t41,t42,t43,t44,t45],defers:=[] }/\OnS A q N c VN gt dv d1 d2 L W t5 t6 t39 t40 t41 t42 t43 t44 t45
theorem onI_next {i:Nat} {W0:World} {z0 z1 z3 z7 z8 z10 z11 z12 z13 z14 z15 z16 z17 z18 z19 z20 z21 z22 z23 z24 z25 z26 z27 z28 z29 z30 z31 z32 z33 z34 z35 z36 z37 z38:Value} (hLs:L.size=10) (hx:Bx (A+1) W0 W') (S:OnS A q N c VN gt dv d1 d2 (L.setIfInBounds i true) W' t5 t6 t39 t40 t41 t42 t43 t44 t45) :
  OnI A q N c VN gt dv d1 d2 W0 (L.setIfInBounds i true) { tmps:=#[z0,z1, .pointer (some ⟨A,0,none⟩),z3, .pointer (some ⟨A+1,0,none⟩),t5,t6,z7,z8, .pointer (some ⟨q,0,none⟩),z10,z11,z12,z13,z14,z15,z16,z17,z18,z19,z20,z21,z22,z23,z24,z25,z26,z27,z28,z29,z30,z31,z32,z33,z34,z35,z36,z37,z38,t39,t40,t41,t42,t43,t44,t45],defers:=[] } W' :=
 ⟨by simp [hLs],hx,_,_,_,_,_,_,_,_,_,_,_,_,_,_,_,_,_,_,_,_,_,_,_,_,_,_,_,_,_,_,_,_,_,_,_,_,_,_,_,_,_,_,_,rfl,S⟩
end Go.Proofs.YtbdpcngcbnoioaaGreatDoor
namespace Go.Proofs.YtbdpcngcbnoioaaGreatDoor
open Go.RowKit Go.Shelf
attribute [local go_sem ↓] Go.wp_at_zero Go.wp_at_succ
theorem SesO.keepx {w V:World} {B x:Nat} {sp si sf sd:Value} {s:SS} (h:SesO w B sp si sf sd s) (hx:Bx x w V) (hB:x<B):SesO V B sp si sf sd s:=by
 obtain ⟨vs,h1,h2⟩:=h.ly;exact ⟨h.kd.move fun g hg hl=>⟨hg,hx.block g hl (by have:=hg.1;omega)⟩,⟨vs,oX h1 hx hB,h2.1,fun i u l e1 e2=>oX (h2.2.1 i u l e1 e2) hx hB,h2.2.2⟩,oX h.ts hx hB,oX h.rs hx hB⟩
theorem more_len (f g:LI) (r:List Rw):(moreL f g r).length<=r.length:=List.length_filter_le _ _
attribute [local go_sem ↓] Go.wp_at_zero Go.wp_at_succ
theorem specFlow_own {t:PT} {B:Nat} {s iv:Value} {K:List (List Rw)} {w:World} {r:List Rw} (hf:flowR t K=some r) (hs:KdS B w t s) (hi:LyR w iv K) :
  Calls Tryz.prog 69 #[pl t.k t.n s,iv] w fun e w'=>∃ o:Value,e= .returned (.tuple #[o, .bool true])/\OwnR w' w.heap.size o r/\Below w.heap.size w w':=by
 refine (specPlanFlow_any hs hi (fun _ _ _ _ _ _=>trivial)).mono ?_;rintro e w1 ⟨o,rfl,own,hb⟩;rw [hf] at own ⊢;exact ⟨o,rfl,own,hb⟩
end Go.Proofs.YtbdpcngcbnoioaaGreatDoor
