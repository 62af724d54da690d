import Derived.Test.YtbdpcngcbnoioaaGreatDoorGqa
import Derived.Deep.RegionLaw
set_option maxRecDepth 100000
set_option maxHeartbeats 16000000
namespace Go.Proofs.YtbdpcngcbnoioaaGreatDoor
open Go.RowKit Go.Shelf
section
variable {α:Type} {enc:α->List Value} {k:Nat}
theorem slk_src (hk0:0<k) (hk:∀ x,(enc x).length=k) {w:World} {v:Value} {l:List α} (h:SlK enc k w v l):∃ (ad:Option Addr) (cap:Nat),v= .slice ad l.length cap/\(l≠[]->∃ g off,ad=some ⟨g,off,none⟩/\∀ j u,(l.flatMap enc)[j]?=some u->w.cell? ((⟨g,off,none⟩:Addr).add j)=some u):=by
 obtain ⟨a,cap,rfl,hc,hm,hn,h4⟩:=h;refine ⟨a,cap,rfl,fun hne=>?_⟩;have h0:0<l.length:=List.length_pos_iff.2 hne;obtain ⟨g,off,rfl,hg,_⟩:=h4 0 l[0] (List.getElem?_eq_getElem h0);refine ⟨g,off,rfl,fun j u hj=>?_⟩;have hlt:j<l.length*k:=by
  have:=(List.getElem?_eq_some_iff.1 hj).1
  rwa [flat_len hk] at this
 have hq:j / k<l.length:=Nat.div_lt_of_lt_mul (by rw [Nat.mul_comm];exact hlt);have hr:j%k<k:=Nat.mod_lt _ hk0;obtain ⟨g',off',e,_,c⟩:=h4 (j / k) l[j / k] (List.getElem?_eq_getElem hq);simp only [Option.some.injEq,Addr.mk.injEq] at e;obtain ⟨rfl,rfl,_⟩:=e;have hc2:=c (j%k) hr;have e2:=flat_get hk l (List.getElem?_eq_getElem hq) (j:=j%k) hr;have e3:j / k*k+j%k=j:=by rw [Nat.mul_comm];exact Nat.div_add_mod j k
 rw [e3] at e2;rw [Nat.add_assoc,e3] at hc2;rw [Go.WideShapes.add_plain];rw [hc2,<-e2,hj]
theorem app_zeroK {tS tE:TypeId} {z:Value} {bt:Nat} (hu:Tryz.prog.underlying tS=some (.slice tE)) (hinfo:(Tryz.prog.info? tE).map (fun i=>(i.zero,i.size,i.bytes))=some (some z,k,bt)) (hk:∀ x,(enc x).length=k)
  {w:World} {B:Nat} {v:Value} {l:List α} (h:OwnK enc k tE w B v l) (ad:Option Addr) (c:Nat) (ty:TypeId):(Builtin.append_ #[tS,tS] ty #[v, .slice ad 0 c]).run Tryz.prog w= .ok v w:=by
 obtain ⟨i0,hi,hz0,hz1,hz2⟩:=info_parts hinfo;have hs:_root_.Go.Src Tryz.prog i0.size tS (.slice ad 0 c) 0 [] w:=by
  cases ad with
  | none=>exact _root_.Go.Src.ofNil w hu c
  | some a=>exact _root_.Go.Src.ofSlice w hu a 0 c [] (by simp) (by simp) (by simp)
 rcases ownK_open h hk with ⟨rfl,rfl⟩|⟨g,cap,cs,rfl,hg,hb,hss,hcc,hm,_⟩
 ·simp [Builtin.append_,run_underlying hu,sizeOf,typeInfo,hi,hs.len,hs.cells]
 ·have:=run_append_room_src (P:=Tryz.prog) w tS tS ty tE i0 hu hi g 0 l.length cap _ 0 [] hs (by omega) (by simp) (by simp);exact this
theorem wpKs {o:Oper} {a:Act} {Kk:Act->World->Prop} {Q:Exit->Act->World->Prop} {tS tE:TypeId} {z:Value} {bt:Nat} (hu:Tryz.prog.underlying tS=some (.slice tE)) (hinfo:(Tryz.prog.info? tE).map (fun i=>(i.zero,i.size,i.bytes))=some (some z,k,bt)) (hk0:0<k) (hbt:bt<=1000) (hzc:z.cells.size=k) (hk:∀ x,(enc x).length=k) (h1c:∀ x,∀ u∈enc x,u.oneCell'=true)
  (w:World) (s x:Operand) (ho:o.op= .call { callee:= .builtin .append,args:=#[s,x],argTypes:=#[tS,tS] })
  (base:Nat) (v:Value) (l:List α) (hs:a.eval s=v) (hown:OwnK enc k tE w base v l) (v2:Value) (m:List α) (hx:a.eval x=v2) (hR:SlK enc k w v2 m) (hl:l.length+m.length<=2000000) (hbase:base<=w.heap.size)
  (h:∀ v' w',OwnK enc k tE w' base v' (l++m)->w.grownBy w' v.ownBlock->Kk (a.put o.dst v') w'):Oper.wp Tryz.prog o a w Kk Q:=by
 obtain ⟨i0,hi,hz0,hz1,hz2⟩:=info_parts hinfo;obtain ⟨ad,cap,rfl,hsrc⟩:=slk_src hk0 hk hR
 by_cases hm0:m=[]
 ·subst hm0;have hrun:=app_zeroK hu hinfo hk hown ad cap o.type;unfold Oper.wp;simp [execOp,ho,resolve,invoke,builtin,hs,hx,hrun,Result.andThen];exact h v w (by simpa using hown) ⟨rfl,rfl,rfl,Nat.le_refl _,fun _ _ _=>rfl⟩
 ·obtain ⟨g,off,rfl,hnews⟩:=hsrc hm0;have hpos:0<m.length:=List.length_pos_iff.2 hm0;have hbb:(l.length+m.length)*bt<=140737488355328:=by
   have:=Nat.mul_le_mul hl hbt;omega
  refine wp_append_lies w s x tS ho base tE i0 z k bt hu hi hz0 hz1 hz2 hzc hk0 v l.length (l.flatMap enc) hs hown ⟨g,off,none⟩ m.length cap (m.flatMap enc) hx (flat_len hk m) hnews (fun u hu=>by obtain ⟨x,_,hx⟩:=List.mem_flatMap.1 hu;exact h1c x u hx) hpos (by unfold maxLen;omega) hbb hbase w.heap.size rfl ?_;intro g' cap' w' h1 h2 _ _;refine h _ w' ?_ h2
  show w'.ownsRow _ _ _ _ _ _
  rw [List.flatMap_append,List.length_append];exact h1
end
abbrev timC (p:Int×Int):List Value:=[.int .i64 p.1, .int .i64 p.2]
theorem timC_len (p:Int×Int):(timC p).length=2:=rfl
theorem ts_slk {w:World} {v:Value} {l:LI} (h:Ts w v l):SlK timC 2 w v l:=by
 obtain ⟨a,cap,rfl,h1,h2,h3,h4⟩:=h;refine ⟨a,cap,rfl,h1,h2,h3,fun i x hi=>?_⟩;obtain ⟨hlt,e⟩:=List.getElem?_eq_some_iff.1 hi;obtain ⟨g,off,ha,hg,c0,c1⟩:=h4 i hlt;refine ⟨g,off,ha,hg,fun j hj=>?_⟩;have e0:tA l i=x.1:=by simp [tA,hi]
 have e1:tB l i=x.2:=by simp [tB,hi]
 obtain rfl|rfl:j=0\/j=1:=by omega
 ·rw [Nat.add_zero,c0,e0];rfl
 ·rw [c1,e1];rfl
section
variable {ops:Array Oper} {rest:List Oper} {o:Oper} {a:Act} {Kk:Act->World->Prop} {Q:Exit->Act->World->Prop} {E:Prop}
theorem appTs (w:World) (hgd:o.guard=none) (s x:Operand) (ho:o.op= .call { callee:= .builtin .append,args:=#[s,x],argTypes:=#[27,27] })
  (base:Nat) (v:Value) (l:LI) (hs:a.eval s=v) (hown:Own w base v l) (v2:Value) (m:LI) (hx:a.eval x=v2) (hR:Ts w v2 m) (hl:l.length+m.length<=2000000) (hbase:base<=w.heap.size)
  (h:∀ v' w',Own w' base v' (l++m)->w.grownBy w' v.ownBlock->wpList Tryz.prog ops Q rest (a.put o.dst v') w'):wpList Tryz.prog ops Q (o::rest) a w :=
 wpList_plain hgd fun _ hK=>wpKs (enc:=timC) Tryz.underlying27 infoT (by omega) (by omega) rfl timC_len (fun p=>ones2 _ _) w s x ho base v l hs hown v2 m hx (ts_slk hR) hl hbase fun v' w' h1 h2=>hK _ _ (h v' w' h1 h2)
theorem stepTs (w:World) (hgd:o.guard=none) (s x:Operand) (ho:o.op= .call { callee:= .builtin .append,args:=#[s,x],argTypes:=#[27,27] })
  (base:Nat) (v:Value) (l:LI) (hs:a.eval s=v) (hown:Own w base v l) (v2:Value) (m:LI) (hx:a.eval x=v2) (hR:Ts w v2 m) (hl:l.length+m.length<=2000000) (hbase:base<=w.heap.size)
  (h:∀ v' w',Own w' base v' (l++m)->w.grownBy w' v.ownBlock->Kk (a.put o.dst v') w'):if Region.wanted o (yielded ops a.tmps)=true then Oper.wp Tryz.prog o a w Kk Q else E:=by
 rw [if_pos (by simp [Region.wanted,hgd])];exact wpKs (enc:=timC) Tryz.underlying27 infoT (by omega) (by omega) rfl timC_len (fun p=>ones2 _ _) w s x ho base v l hs hown v2 m hx (ts_slk hR) hl hbase h
end
attribute [local go_sem ↓] Go.wp_at_zero Go.wp_at_succ
def KdP (p:Nat->Prop) (w:World):PT->Value->Prop
 | .n0 _ _,s=>∃ a c,s= .slice a 0 c
 | .n1 _ _ x,s=>∃ g c sx,s= .slice (some ⟨g,0,none⟩) 1 c/\p g/\w.cell? ⟨g,0,none⟩=some (.int .i64 x.k)/\w.cell? ⟨g,1,none⟩=some (.int .i64 x.n)/\w.cell? ⟨g,2,none⟩=some sx/\KdP p w x sx
 | .n2 _ _ x y,s=>∃ g c sx sy,s= .slice (some ⟨g,0,none⟩) 2 c/\p g/\w.cell? ⟨g,0,none⟩=some (.int .i64 x.k)/\w.cell? ⟨g,1,none⟩=some (.int .i64 x.n)/\w.cell? ⟨g,2,none⟩=some sx/\w.cell? ⟨g,3,none⟩=some (.int .i64 y.k)/\w.cell? ⟨g,4,none⟩=some (.int .i64 y.n)/\w.cell? ⟨g,5,none⟩=some sy/\KdP p w x sx/\KdP p w y sy
theorem KdP.sl {p:Nat->Prop} {w:World} {t:PT} {s:Value} (h:KdP p w t s):∃ a c,s= .slice a t.len c:=by
 cases t with
 | n0 k n=>obtain ⟨a,c,rfl⟩:=h;exact ⟨_,_,rfl⟩
 | n1 k n x=>obtain ⟨g,c,sx,rfl,_⟩:=h;exact ⟨_,_,rfl⟩
 | n2 k n x y=>obtain ⟨g,c,sx,sy,rfl,_⟩:=h;exact ⟨_,_,rfl⟩
theorem KdP.move {p q:Nat->Prop} {w w':World} (H:∀ g,p g->g<w.heap.size->q g/\w'.heap[g]?=w.heap[g]?):∀ {t:PT} {s:Value},KdP p w t s->KdP q w' t s
 | .n0 _ _,_,h=>h
 | .n1 _ _ _,_,⟨g,c,sx,e,hp,h1,h2,h3,h4⟩ =>
  have H2:=H g hp (lC h1)
  ⟨g,c,sx,e,H2.1,cell_at H2.2 h1,cell_at H2.2 h2,cell_at H2.2 h3,KdP.move H h4⟩
 | .n2 _ _ _ _,_,⟨g,c,sx,sy,e,hp,h1,h2,h3,h4,h5,h6,h7,h8⟩ =>
  have H2:=H g hp (lC h1)
  ⟨g,c,sx,sy,e,H2.1,cell_at H2.2 h1,cell_at H2.2 h2,cell_at H2.2 h3,cell_at H2.2 h4,cell_at H2.2 h5,cell_at H2.2 h6,KdP.move H h7,KdP.move H h8⟩
theorem KdP.kd {p:Nat->Prop} {B:Nat} {w:World} (H:∀ g,p g->B<=g):∀ {t:PT} {s:Value},KdP p w t s->KdS B w t s
 | .n0 _ _,_,h=>h
 | .n1 _ _ _,_,⟨g,c,sx,e,hp,h1,h2,h3,h4⟩=>⟨g,0,c,sx,e,H g hp,h1,h2,h3,KdP.kd H h4⟩
 | .n2 _ _ _ _,_,⟨g,c,sx,sy,e,hp,h1,h2,h3,h4,h5,h6,h7,h8⟩=>⟨g,0,c,sx,sy,e,H g hp,h1,h2,h3,h4,h5,h6,KdP.kd H h7,KdP.kd H h8⟩
theorem kdP_of {p q:Nat->Prop} {w:World} {B:Nat} {t:PT} {sl:Value} {ps:List (Int×Int×Value)} (ho:OwnPl w B sl ps) (hl:ps.length=t.len)
  (hk:∀ j k n s,ps[j]?=some (k,n,s)->k=(t.kid j).k/\n=(t.kid j).n/\KdP p w (t.kid j) s) (hq:∀ g,B<=g->q g) (hpq:∀ g,p g->q g):KdP q w t sl:=by
 have hm:∀ {x:PT} {s:Value},KdP p w x s->KdP q w x s:=KdP.move fun g h _=>⟨hpq g h,rfl⟩
 rcases ownK_open ho plC_len with ⟨rfl,h0⟩|⟨g,cap,c,e,-⟩
 ·subst h0;cases t with
  | n0 k n=>exact ⟨_,_,rfl⟩
  | n1 k n x=>simp [PT.len] at hl
  | n2 k n x y=>simp [PT.len] at hl
 ·subst e;cases t with
  | n0 k n=>rw [hl];exact ⟨_,_,rfl⟩
  | n1 k n x =>
   match ps,hl with
   | [(a,b,s)],_ =>
    obtain ⟨e1,e2,ok⟩:=hk 0 a b s rfl;obtain ⟨hB,c0,c1,c2⟩:=OwnPl.at ho (i:=0) rfl;refine ⟨g,cap,s,rfl,hq g hB,?_,?_,by simpa using c2,hm ok⟩
    ·rw [e1] at c0;simpa [PT.kid] using c0
    ·rw [e2] at c1;simpa [PT.kid] using c1
  | n2 k n x y =>
   match ps,hl with
   | [(a,b,s),(a',b',s')],_ =>
    obtain ⟨e1,e2,ok⟩:=hk 0 a b s rfl;obtain ⟨e3,e4,ok'⟩:=hk 1 a' b' s' rfl;obtain ⟨hB,c0,c1,c2⟩:=OwnPl.at ho (i:=0) rfl;obtain ⟨_,d0,d1,d2⟩:=OwnPl.at ho (i:=1) rfl;refine ⟨g,cap,s,s',rfl,hq g hB,?_,?_,by simpa using c2,?_,?_,by simpa using d2,hm ok,hm ok'⟩
    ·rw [e1] at c0;simpa [PT.kid] using c0
    ·rw [e2] at c1;simpa [PT.kid] using c1
    ·rw [e3] at d0;simpa [PT.kid] using d0
    ·rw [e4] at d1;simpa [PT.kid] using d1
def LikePost (t:PT) (w:World) (e:Ending) (w':World):Prop:=∃ (a:Option Addr) (c:Nat),e= .returned (pl t.k t.n (.slice a t.len c))/\KdP (fun g=>w.heap.size<=g) w' t (.slice a t.len c)/\Below w.heap.size w w'
structure LikI (t:PT) (w:World) (s:Value) (b3 k:Nat) (wr:World):Prop where
 le:k<=t.len
 ps:∃ sl ps,ps.length=k/\Bk wr b3 #[.int .i64 t.k, .int .i64 t.n,sl] 25/\OwnPl wr (b3+1) sl ps/\(∀ j a b x,ps[j]?=some (a,b,x)->a=(t.kid j).k/\b=(t.kid j).n/\KdP (fun g=>b3<g/\sl.ownBlock≠some g) wr (t.kid j) x)
 arg:Bk wr w.heap.size #[.int .i64 t.k, .int .i64 t.n,s] 25
 res:Bk wr (w.heap.size+1) #[.int .i64 0, .int .i64 0, .slice none 0 0] 25
 ord:w.heap.size+1<b3
 bel:Below w.heap.size w wr
theorem likI_step {t:PT} {w:World} {s:Value} {b3 k:Nat} {wr W8 w9:World} {sl:Value} {ps:List (Int×Int×Value)} {b:Option Addr} {m c g cap:Nat} (hlt:k<t.len) (hpl:ps.length=k) (b9k:Bk wr b3 #[.int .i64 t.k, .int .i64 t.n,sl] 25) (hown:OwnPl wr (b3+1) sl ps)
  (hps:∀ j a b x,ps[j]?=some (a,b,x)->a=(t.kid j).k/\b=(t.kid j).n/\KdP (fun g=>b3<g/\sl.ownBlock≠some g) wr (t.kid j) x) (harg:Bk wr w.heap.size #[.int .i64 t.k, .int .i64 t.n,s] 25) (hres:Bk wr (w.heap.size+1) #[.int .i64 0, .int .i64 0, .slice none 0 0] 25) (h9:w.heap.size+1<b3) (hb:Below w.heap.size w wr)
  (hb8:Below wr.heap.size wr W8) (hk:KdP (fun g=>wr.heap.size<=g) W8 (t.kid k) (.slice b m c)) (hn:OwnPl w9 (b3+1) (.slice (some ⟨g,0,none⟩) (ps.length+1) cap) (ps++[((t.kid k).k,(t.kid k).n, .slice b m c)])) (hg:W8.grownBy w9 sl.ownBlock) (hor:sl.ownBlock=some g\/g=W8.heap.size) :
  LikI t w s b3 (k+1) (w9.setCell ⟨b3,2,none⟩ (.slice (some ⟨g,0,none⟩) (ps.length+1) cap)):=by
 have hlo:∀ q,sl.ownBlock=some q->b3+1<=q/\q<wr.heap.size:=fun q e=>⟨oB hown q e,oT hown q e⟩;have h9l:=b9k.lt;have hs8:=hb8.size;have hne:sl.ownBlock≠some b3:=fun e=>by have:=(hlo _ e).1;omega
 have hset:∀ x,x≠b3->(w9.setCell ⟨b3,2,none⟩ (.slice (some ⟨g,0,none⟩) (ps.length+1) cap)).heap[x]?=w9.heap[x]?:=fun x hx=>Below.heap_setCell _ _ _ _ (by show _≠_;first|exact hx|exact fun e=>hx e.symm)
 refine ⟨by omega,⟨_,ps++[((t.kid k).k,(t.kid k).n, .slice b m c)],by simp [hpl],(pl_grew (b9k.keep hb8) hg hne).set 2 _,oAz hn fun x e=>hset x (by have:=oB hn x e;omega),?_⟩,?_,?_,h9,?_⟩
 ·intro j a b' x hj
  rcases Nat.lt_or_ge j k with h|h
  ·rw [List.getElem?_append_left (by omega)] at hj;obtain ⟨e,e',ok⟩:=hps j a b' x hj;refine ⟨e,e',ok.move fun q hq hql=>?_⟩;have x1:(Value.slice (some ⟨g,0,none⟩) (ps.length+1) cap).ownBlock≠some q:=by
    intro e2;have e3:g=q:=by simpa [Value.ownBlock] using e2
    subst e3
    rcases hor with h1|h1
    ·exact hq.2 h1
    ·omega
   refine ⟨⟨hq.1,x1⟩,?_⟩;rw [hset q (by omega),hg.block q (by omega) (fun e=>hq.2 e.symm)];exact hb8.block q hql
  ·have hj2:j=k:=by
    have:=(List.getElem?_eq_some_iff.1 hj).1;simp at this;omega
   subst hj2;rw [List.getElem?_append_right (by omega),hpl,Nat.sub_self] at hj;simp only [List.getElem?_cons_zero,Option.some.injEq,Prod.mk.injEq] at hj;obtain ⟨rfl,rfl,rfl⟩:=hj;refine ⟨rfl,rfl,hk.move fun q hq hql=>?_⟩;have x1:(Value.slice (some ⟨g,0,none⟩) (ps.length+1) cap).ownBlock≠some q:=by
    intro e2;have e3:g=q:=by simpa [Value.ownBlock] using e2
    subst e3
    rcases hor with h1|h1
    ·have:=(hlo _ h1).2;omega
    ·omega
   refine ⟨⟨by omega,x1⟩,?_⟩;rw [hset q (by omega)];exact hg.block q hql (fun e=>by have:=(hlo _ e.symm).2;omega)
 ·have b2:=pl_grew (harg.keep hb8) hg (fun e=>by have:=(hlo _ e).1;omega);unfold Bk;rw [hset _ (by omega)];exact b2
 ·have b2:=pl_grew (hres.keep hb8) hg (fun e=>by have:=(hlo _ e).1;omega);unfold Bk;rw [hset _ (by omega)];exact b2
 ·exact ((bSz hb hb8).grown hg (by have:=hb.size;omega) (fun x e=>by have:=(hlo _ e).1;omega)).setCell (by show _<=b3;omega) _
section
variable {ops:Array Oper} {o:Oper} {a:Act} {Kk:Act->World->Prop} {Q:Exit->Act->World->Prop} {Ee:Prop}
theorem stepPl2 (w:World) (hgd:o.guard=none) (s x:Operand) (ho:o.op= .call { callee:= .builtin .append,args:=#[s,x],argTypes:=#[23,23] })
  (base:Nat) (v:Value) (l:List (Int×Int×Value)) (hs:a.eval s=v) (hown:OwnPl w base v l) (g0:Nat) (k n:Int) (ad:Option Addr) (i c:Nat) (hx:a.eval x= .slice (some ⟨g0,0,none⟩) 1 1)
  (hc:Bk w g0 #[.int .i64 k, .int .i64 n, .slice ad i c] 25) (hl:l.length<=2000000) (hbase:base<=w.heap.size)
  (h:∀ g cap w',OwnPl w' base (.slice (some ⟨g,0,none⟩) (l.length+1) cap) (l++[(k,n, .slice ad i c)])->w.grownBy w' v.ownBlock->(v.ownBlock=some g\/g=w.heap.size)->g<w'.heap.size->Kk (a.put o.dst (.slice (some ⟨g,0,none⟩) (l.length+1) cap)) w') :
  if Region.wanted o (yielded ops a.tmps)=true then Oper.wp Tryz.prog o a w Kk Q else Ee:=by
 obtain ⟨i0,hi,hz0,hz1,hz2⟩:=info_parts infoPl;refine step_append_lies w hgd s x 23 ho base 25 i0 _ 3 40 Tryz.underlying23 hi hz0 hz1 hz2 rfl (by decide) v l.length (l.flatMap plC) hs hown ⟨g0,0,none⟩ 1 1 (plC (k,n, .slice ad i c)) hx rfl (newsL hc) (onesPl _ _ _ _ _) (by omega) (by unfold maxLen;omega) (by omega) hbase w.heap.size rfl ?_;intro g cap w' h1 h2 h3 h4;refine h g cap w' ?_ h2 h3 h4
 show w'.ownsRow _ _ _ _ _ _
 rw [List.flatMap_append];simpa using h1
end
theorem l31Plan_step {t:PT} {B:Nat} {s:Value} {w:World} (hs:KdS B w t s)
  (hrec:∀ i,i<t.len->∀ (W:World) (s':Value),KdS B W (t.kid i) s'->Calls Tryz.prog 103 #[pl (t.kid i).k (t.kid i).n s'] W (LikePost (t.kid i) W)) :
  Calls Tryz.prog 103 #[pl t.k t.n s] w (LikePost t w):=by
 have HR:=(show Hid _ from hrec);have HSL:=(show Hid (KdS B w t s) from hs);obtain ⟨a,c,rfl⟩:=hs.sl;have htl:=PT.len_le t;have bA:Bk (((w.alloc (.cells #[.int .i64 t.k, .int .i64 t.n, .slice a t.len c] 25)).alloc (.cells #[.int .i64 0, .int .i64 0, .slice none 0 0] 25)).alloc (.cells #[.int .i64 t.k, .int .i64 t.n, .slice none 0 0] 25)) w.heap.size #[.int .i64 t.k, .int .i64 t.n, .slice a t.len c] 25:=((Bk.new _ _ rfl).alloc _).alloc _;have bR:Bk (((w.alloc (.cells #[.int .i64 t.k, .int .i64 t.n, .slice a t.len c] 25)).alloc (.cells #[.int .i64 0, .int .i64 0, .slice none 0 0] 25)).alloc (.cells #[.int .i64 t.k, .int .i64 t.n, .slice none 0 0] 25)) (w.heap.size+1) #[.int .i64 0, .int .i64 0, .slice none 0 0] 25:=(Bk.new _ _ (by simp)).alloc _;have bN:Bk (((w.alloc (.cells #[.int .i64 t.k, .int .i64 t.n, .slice a t.len c] 25)).alloc (.cells #[.int .i64 0, .int .i64 0, .slice none 0 0] 25)).alloc (.cells #[.int .i64 t.k, .int .i64 t.n, .slice none 0 0] 25)) (w.heap.size+2) #[.int .i64 t.k, .int .i64 t.n, .slice none 0 0] 25:=Bk.new _ _ (by simp);have hb0:Below w.heap.size w (((w.alloc (.cells #[.int .i64 t.k, .int .i64 t.n, .slice a t.len c] 25)).alloc (.cells #[.int .i64 0, .int .i64 0, .slice none 0 0] 25)).alloc (.cells #[.int .i64 t.k, .int .i64 t.n, .slice none 0 0] 25)):=bAz (bAz (bAz (Below.refl _ _) _) _) _;have bA2:Bk ((w.alloc (.cells #[.int .i64 t.k, .int .i64 t.n, .slice a t.len c] 25)).alloc (.cells #[.int .i64 0, .int .i64 0, .slice none 0 0] 25)) w.heap.size #[.int .i64 t.k, .int .i64 t.n, .slice a t.len c] 25:=(Bk.new _ _ rfl).alloc _;obtain ⟨v0,v1,v2⟩:=bA2.three';obtain ⟨x0,x1,x2⟩:=bA.three';clear hs hrec bA2;go_enter Tryz.func103,Tryz.ntmps103;go_wp2_with fail;clear v0 v1 v2 x0 x1 x2;generalize (((w.alloc (.cells #[.int .i64 t.k, .int .i64 t.n, .slice a t.len c] 25)).alloc (.cells #[.int .i64 0, .int .i64 0, .slice none 0 0] 25)).alloc (.cells #[.int .i64 t.k, .int .i64 t.n, .slice none 0 0] 25))=W0 at *
 go_loopw [4] (fun i wr=>∃ k:Nat,i= .int .i64 k/\LikI t w (.slice a t.len c) (w.heap.size+2) k wr) (fun i _=>t.len-(intOf i).toNat)
 case atStart=>exact ⟨0,rfl,Nat.zero_le _,⟨_,[],rfl,bN,oN _ _ _ _ _,fun j a b x h=>by simp at h⟩,bA,bR,by omega,hb0⟩
 case round =>
  clear bA bR bN hb0;obtain ⟨k,rfl,HI⟩:=hrel;obtain ⟨hkl,⟨sl,ps,hpl,b9k,hown,hps⟩,bA,bR,h9,hb⟩:=HI;have HP:=(show Hid _ from hps);have HO:=(show Hid (OwnPl wr (w.heap.size+2+1) sl ps) from hown);clear hown hps
  by_cases hlt2:k<t.len
  ·have ik:((k:Int)<(t.len:Int)):=by omega
   obtain ⟨g,off,sx,rfl,hgl,c0,c1,c2,hkid,b2,m2,d2,rfl⟩:=(HSL.out.keep hb).at hlt2;obtain ⟨asl,nsl,csl,esl⟩:∃ a n c,sl= .slice a n c:=by
    rcases ownK_open HO.out plC_len with ⟨h1,_⟩|⟨g1,cap1,c1',h1,_⟩
    ·exact ⟨_,_,_,h1⟩
    ·exact ⟨_,_,_,h1⟩
   subst esl;have HW:Hid (∀ V,Below wr.heap.size wr V->V.cell? ⟨w.heap.size+2,2,none⟩=some (.slice asl nsl csl)/\V.cell? ⟨w.heap.size,2,none⟩=some (.slice (some ⟨g,off,none⟩) t.len c)/\V.cell? ⟨g,off+k*3,none⟩=some (.int .i64 (t.kid k).k)/\V.cell? ⟨g,off+k*3+1,none⟩=some (.int .i64 (t.kid k).n)/\V.cell? ⟨g,off+k*3+2,none⟩=some (.slice b2 m2 d2)):=fun V hV=>⟨(b9k.keep hV).three'.2.2,(bA.keep hV).three'.2.2,cB hV c0,cB hV c1,cB hV c2⟩;have hd1:Below wr.heap.size wr wr:=Below.refl _ _;have hd:Below wr.heap.size wr wr.drew:=hd1.drew;have HK:=(show Hid _ from fun (V:World) (hV:Below wr.heap.size wr V)=>HR.out k hlt2 V _ (hkid.keep hV));have HB:=(show Hid (Bk wr (w.heap.size+2) #[.int .i64 t.k, .int .i64 t.n, .slice asl nsl csl] 25) from b9k);have HAR:=(show Hid _ from bA);have HRS:=(show Hid _ from bR);have hzr:w.heap.size+2+1<=wr.heap.size:=by have:=b9k.lt;omega
   obtain ⟨p0,p1,p2⟩:=b9k.three';obtain ⟨z0,z1,z2⟩:=bA.three';clear hkid bA bR b9k;go_wp2_with fail;clear c0 c1 c2;obtain ⟨i1,i2,i3,i4,i5⟩:=HW.out _ (Below.refl _ _);obtain ⟨j1,j2,j3,j4,j5⟩:=HW.out _ hd
   go_region_law (first
    | (go_simp;go_at_call 103;refine Calls.mono (HK.out _ hd) ?_;rintro e w7 ⟨a7,c7,rfl,kd7,hb7⟩;have hc7:Below wr.heap.size wr w7:=bSz hd hb7;have hc8:Below wr.heap.size wr (w7.alloc (.cells #[.int .i64 (t.kid k).k, .int .i64 (t.kid k).n, .slice a7 (t.kid k).len c7] 25)):=bAz hc7 _;obtain ⟨q0,q1,q2⟩:=(HB.out.keep hc7).three';obtain ⟨r0,r1,r2⟩:=(HB.out.keep hc8).three';have bn:Bk (w7.alloc (.cells #[.int .i64 (t.kid k).k, .int .i64 (t.kid k).n, .slice a7 (t.kid k).len c7] 25)) w7.heap.size #[.int .i64 (t.kid k).k, .int .i64 (t.kid k).n, .slice a7 (t.kid k).len c7] 25:=Bk.new _ _ rfl;have ho8:=oK HO.out hc8;have hz8:=Nat.le_trans hzr hc8.size;obtain ⟨l1,l2,l3,l4,l5⟩:=HW.out _ hc7;obtain ⟨m1,m2',m3,m4,m5⟩:=HW.out _ hc8)
    | (refine stepPl2 _ rfl _ _ rfl (w.heap.size+2+1) _ ps rfl ho8 _ _ _ _ _ _ rfl bn (by omega) hz8 ?_;intro g9 cap9 w9 own9 hg9 hor9 hlg;have tb9:=pl_grew (HB.out.keep hc8) hg9 (fun e=>by have:=oB ho8 _ e;omega);obtain ⟨y0,y1,y2⟩:=tb9.three';have f2:=tb9.free 2))
   all_goals
    have HN:Hid (LikI t w (.slice (some ⟨g,off,none⟩) t.len c) (w.heap.size+2) (k+1) (w9.setCell ⟨w.heap.size+2,2,none⟩ (.slice (some ⟨g9,0,none⟩) (ps.length+1) cap9))):=likI_step hlt2 hpl HB.out HO.out HP.out HAR.out HRS.out h9 hb hc8 (kd7.move fun q hq hql=>⟨Nat.le_trans hd.size hq,(bAz (Below.refl w7.heap.size w7) _).block q hql⟩) own9 hg9 hor9;have HLT:Hid (k<t.len):=hlt2;clear own9 hg9 hor9 hlg tb9 y0 y1 y2 f2 kd7 hb7 hc7 hc8 q0 q1 q2 r0 r1 r2 bn ho8 hz8 p0 p1 p2 hlt2;go_wp2_with fail;go_roundw
    case rel =>
     have h:=HN.out;rw [hpl] at h;exact ⟨k+1,by go_num,h⟩
    case measure=>have:=HLT.out;simp [intOf];omega
  ·obtain rfl:k=t.len:=by omega
   have ik:¬ ((t.len:Int)<(t.len:Int)):=by omega
   obtain ⟨p0,p1,p2⟩:=b9k.three';obtain ⟨a0',a1',a2'⟩:=bA.three';have kp:KdP (fun g=>w.heap.size+2<g) wr t sl:=kdP_of HO.out hpl HP.out (fun g h=>h) (fun g h=>h.1);obtain ⟨a5,c5,e5⟩:=kp.sl;subst e5;have f0:=bR.free 0;have q1:=bR.set 0 (.int .i64 t.k);have f1:=q1.free 1;have q2:=q1.set 1 (.int .i64 t.n);have f2:=q2.free 2;have q3:Bk (((wr.setCell ⟨w.heap.size+1,0,none⟩ (.int .i64 t.k)).setCell ⟨w.heap.size+1,1,none⟩ (.int .i64 t.n)).setCell ⟨w.heap.size+1,2,none⟩ (.slice a5 t.len c5)) (w.heap.size+1) #[.int .i64 t.k, .int .i64 t.n, .slice a5 t.len c5] 25:=q2.set 2 _;obtain ⟨y0,y1,y2⟩:=q3.three';obtain ⟨r0,r1,r2⟩:=bR.three';have hset:∀ x,x≠w.heap.size+1->(((wr.setCell ⟨w.heap.size+1,0,none⟩ (.int .i64 t.k)).setCell ⟨w.heap.size+1,1,none⟩ (.int .i64 t.n)).setCell ⟨w.heap.size+1,2,none⟩ (.slice a5 t.len c5)).heap[x]?=wr.heap[x]?:=fun x hx=>((Below.heap_setCell _ _ _ _ hx).trans (Below.heap_setCell _ _ _ _ hx)).trans (Below.heap_setCell _ _ _ _ hx);have HKP:=(show Hid _ from kp.move (q:=fun g=>w.heap.size<=g) fun x hx _=>⟨by omega,hset x (by omega)⟩);have HBF:Hid (Below w.heap.size w (((wr.setCell ⟨w.heap.size+1,0,none⟩ (.int .i64 t.k)).setCell ⟨w.heap.size+1,1,none⟩ (.int .i64 t.n)).setCell ⟨w.heap.size+1,2,none⟩ (.slice a5 t.len c5))):=((hb.setCell (by simp) _).setCell (by simp) _).setCell (by simp) _;clear kp q1 q2 q3 hset HO HP b9k bA bR hb;go_wp2_with fail;refine bodyPost_ret (v:=pl t.k t.n (.slice a5 t.len c5)) (by simp [results,Tryz.results103,go_sem,y0,y1,y2];try rfl) rfl ?_;exact ⟨a5,c5,rfl,HKP.out,HBF.out⟩
theorem l31Plan_any:∀ (t:PT) {B:Nat} {s:Value} {w:World},KdS B w t s->Calls Tryz.prog 103 #[pl t.k t.n s] w (LikePost t w)
 | .n0 _ _,_,_,_,hs=>l31Plan_step hs fun i hi=>by simp [PT.len] at hi
 | .n1 _ _ x,_,_,_,hs=>l31Plan_step hs fun i _ W s' h=>l31Plan_any x h
 | .n2 _ _ x y,_,_,_,hs=>l31Plan_step hs fun i _ W s' h=>by
  cases i with
  | zero=>exact l31Plan_any x h
  | succ i=>exact l31Plan_any y h
attribute [local go_sem ↓] Go.wp_at_zero Go.wp_at_succ
structure SesO (w:World) (B:Nat) (sp si sf sd:Value) (s:SS):Prop where
 kd:KdP (fun g=>B<=g/\si.ownBlock≠some g) w s.t sp
 ly:∃ vs,OwnVR w B si vs/\EoR w B vs s.K
 ts:Own w B sf s.f
 rs:OwnR w B sd s.d
def fewS (s:SS):Prop:=s.K.length<=1000/\(∀ l∈s.K,l.length<=1000)/\s.f.length<=1000/\s.d.length<=1000
theorem SesO.ses {w:World} {B:Nat} {sp si sf sd:Value} {s:SS} (h:SesO w B sp si sf sd s) (hf:fewS s):Ses w sp si sf sd s:=by
 obtain ⟨vs,h1,h2⟩:=h.ly;obtain ⟨f1,f2,f3,f4⟩:=hf;exact ⟨h.kd.kd fun g _=>Nat.zero_le _,h2.ly h1 (by rw [h2.1];omega),Own.ts h.ts (by omega),OwnR.rs h.rs (by omega)⟩
theorem allS_few {s:SS} {r:List Rw} (h:allS s=some r):fewS s:=by
 obtain ⟨h1,h2,h3⟩:=allS_some.1 h;obtain ⟨a,b,e,-,ha,hb,hr⟩:=flowR_some h2;have l1:=rLz (bRz ha);have l2:=rLz (bRz hb);have l3:=rLz (bRz (planR_bok hr));have l4:=fok_len8 h1;have l5:=ahead_len s.f r;rw [h3] at l5;refine ⟨by rw [e];simp,fun l hl=>?_,by omega,by omega⟩;rw [e] at hl;simp only [List.mem_cons,List.not_mem_nil,or_false] at hl
 rcases hl with rfl|rfl<;>omega
theorem EoR.setBox {w:World} {B b i:Nat} {vs:List Value} {K:List (List Rw)} {c:Array Value} {v:Value} (h:EoR w B vs K) (hb:Bk w b c 30):EoR (w.setCell ⟨b,i,none⟩ v) B vs K :=
 ⟨h.1,fun j u l h1 h2=>by
  have ho:=h.2.1 j u l h1 h2;refine oAz ho fun q e=>Below.heap_setCell _ _ _ _ ?_;obtain ⟨d,hd⟩:=ownR_cells ho e;exact bK hd hb (by decide),h.2.2⟩
theorem OwnVR.setBox {w:World} {B b i:Nat} {u:Value} {vs:List Value} {c:Array Value} {v:Value} (h:OwnVR w B u vs) (hb:Bk w b c 30):OwnVR (w.setCell ⟨b,i,none⟩ v) B u vs :=
 oAz h fun q e=>Below.heap_setCell _ _ _ _ (by
  obtain ⟨d,hd⟩:=ownVR_cells h e;exact bK hd hb (by decide))
theorem time_blk {w:World} {B:Nat} {v:Value} {l:LI} (h:Own w B v l) {q:Nat} (e:v.ownBlock=some q):∃ c:Array Value,Bk w q c 32:=by
 rcases own_open h with ⟨rfl,_⟩|⟨g,cap,c,rfl,_,hb,_⟩
 ·simp [Value.ownBlock] at e
 ·simp [Value.ownBlock] at e;subst e;exact ⟨c,hb⟩
theorem own_setBox {w:World} {B b i:Nat} {u:Value} {l:LI} {c:Array Value} {v:Value} (h:Own w B u l) (hb:Bk w b c 30):Own (w.setCell ⟨b,i,none⟩ v) B u l :=
 oAz h fun q e=>Below.heap_setCell _ _ _ _ (by
  obtain ⟨d,hd⟩:=time_blk h e;exact bK hd hb (by decide))
theorem ownR_setBox {w:World} {B b i:Nat} {u:Value} {l:List Rw} {c:Array Value} {v:Value} (h:OwnR w B u l) (hb:Bk w b c 30):OwnR (w.setCell ⟨b,i,none⟩ v) B u l :=
 oAz h fun q e=>Below.heap_setCell _ _ _ _ (by
  obtain ⟨d,hd⟩:=ownR_cells h e;exact bK hd hb (by decide))
theorem own_slice2 {w:World} {B:Nat} {v:Value} {l:LI} (h:Own w B v l):∃ a c,v= .slice a l.length c:=by
 rcases ownK_open (enc:=timC) h timC_len with ⟨rfl,rfl⟩|⟨g,cap,c,rfl,_⟩
 ·exact ⟨_,_,rfl⟩
 ·exact ⟨_,_,rfl⟩
theorem KdP.set {p:Nat->Prop} {w:World} {b i:Nat} {v:Value} {t:PT} {s:Value} (h:KdP p w t s) (hp:∀ g,p g->g≠b):KdP p (w.setCell ⟨b,i,none⟩ v) t s :=
 h.move fun g hg _=>⟨hg,Below.heap_setCell _ _ _ _ (hp g hg)⟩
theorem KdP.keep {p:Nat->Prop} {w w':World} {t:PT} {s:Value} (h:KdP p w t s) (hb:Below w.heap.size w w'):KdP p w' t s :=
 h.move fun g hg hl=>⟨hg,hb.block g hl⟩
theorem KdP.grew {p:Nat->Prop} {w w':World} {t:PT} {s:Value} {row:Option Nat} (h:KdP p w t s) (hg:w.grownBy w' row) (hr:∀ g,p g->row≠some g):KdP p w' t s :=
 h.move fun g hp hl=>⟨hp,hg.block g hl fun e=>hr g hp e.symm⟩
structure SlI (s:SS) (w:World) (arg:Array Value) (b M k:Nat) (kids F T:Value) (fL:LI) (dL:List Rw) (wr:World):Prop where
 le:k<=s.K.length
 ps:∃ lv vs,OwnVR wr M lv vs/\EoR wr M vs (s.K.take k)/\Bk wr b #[.int .i64 s.t.k, .int .i64 s.t.n,kids,lv,F,T] 30
 kd:KdP (fun g=>w.heap.size+2<=g/\g<M/\g≠b) wr s.t kids
 ot:Own wr (w.heap.size+2) F fL
 orr:OwnR wr (w.heap.size+2) T dL
 arg:Bk wr w.heap.size arg 30
 res:Bk wr (w.heap.size+1) #[.int .i64 0, .int .i64 0, .slice none 0 0, .slice none 0 0, .slice none 0 0, .slice none 0 0] 30
 ord:w.heap.size+2<=b
 oM:b<M
 bel:Below w.heap.size w wr
theorem slI_step {s:SS} {w:World} {arg:Array Value} {b M k:Nat} {kids F T lv nv u:Value} {fL:LI} {dL:List Rw} {vs:List Value} {l:List Rw} {wr W8 w9:World} (hlt:s.K[k]?=some l) (hl:l.length<=1000000) (how:OwnVR wr M lv vs) (heo:EoR wr M vs (s.K.take k)) (hbx:Bk wr b #[.int .i64 s.t.k, .int .i64 s.t.n,kids,lv,F,T] 30)
  (hkd:KdP (fun g=>w.heap.size+2<=g/\g<M/\g≠b) wr s.t kids) (hot:Own wr (w.heap.size+2) F fL) (hor:OwnR wr (w.heap.size+2) T dL) (harg:Bk wr w.heap.size arg 30) (hres:Bk wr (w.heap.size+1) #[.int .i64 0, .int .i64 0, .slice none 0 0, .slice none 0 0, .slice none 0 0, .slice none 0 0] 30) (hord:w.heap.size+2<=b) (hoM:b<M) (hb:Below w.heap.size w wr) (hM:M<=wr.heap.size) (hb8:Below wr.heap.size wr W8) (hu:OwnR W8 wr.heap.size u l)
  (hn:OwnVR w9 M nv (vs++[u])) (hg:W8.grownBy w9 lv.ownBlock):SlI s w arg b M (k+1) kids F T fL dL (w9.setCell ⟨b,3,none⟩ nv):=by
 have hne:∀ {q b:Nat} {c:Array Value},lv.ownBlock=some q->Bk wr b c 30->b≠q:=fun e hbk=>by
  obtain ⟨d,hd⟩:=ownVR_cells how e;exact bK hbk hd (by decide)
 have hset:∀ x,x≠b->(w9.setCell ⟨b,3,none⟩ nv).heap[x]?=w9.heap[x]?:=fun x hx=>Below.heap_setCell _ _ _ _ hx;have how8:OwnVR W8 M lv vs:=oK how hb8;have hs8:=hb8.size;have b9:Bk w9 b #[.int .i64 s.t.k, .int .i64 s.t.n,kids,lv,F,T] 30:=(hbx.keep hb8).grew hg fun q e=>hne e hbx;refine ⟨by have:=(List.getElem?_eq_some_iff.1 hlt).1;omega,⟨nv,vs++[u],oAz hn fun q e=>hset q (by have:=oB hn q e;omega),?_,b9.set 3 nv⟩,?_,?_,?_,?_,?_,hord,hoM,?_⟩
 ·refine EoR.setBox ?_ b9;rw [tSz hlt];exact ((heo.keep hb8).snoc (oLz hu hM) hl).grew how8 hg
 ·refine KdP.set (KdP.grew (hkd.keep hb8) hg fun g hp e=>?_) fun g hp=>hp.2.2;have:=oB how g e;omega
 ·have o8:Own W8 (w.heap.size+2) F fL:=oK hot hb8;refine own_setBox (oAz o8 fun q e=>hg.block q (oT o8 q e) fun e'=>?_) b9;obtain ⟨c,hc⟩:=time_blk o8 e;obtain ⟨d,hd⟩:=ownVR_cells how8 e'.symm;exact bK hc hd (by decide) rfl
 ·have o8:OwnR W8 (w.heap.size+2) T dL:=oK hor hb8;refine ownR_setBox (oAz o8 fun q e=>hg.block q (oT o8 q e) fun e'=>?_) b9;obtain ⟨c,hc⟩:=ownR_cells o8 e;obtain ⟨d,hd⟩:=ownVR_cells how8 e'.symm;exact bK hc hd (by decide) rfl
 ·unfold Bk;rw [hset _ (by omega)];exact (harg.keep hb8).grew hg fun q e=>hne e harg
 ·unfold Bk;rw [hset _ (by omega)];exact (hres.keep hb8).grew hg fun q e=>hne e hres
 ·exact ((bSz hb hb8).grown hg (by have:=hb.size;omega) (fun x e=>by have:=oB how x e;omega)).setCell (by show _<=b;omega) _
end Go.Proofs.YtbdpcngcbnoioaaGreatDoor
