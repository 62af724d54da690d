import Derived.Test.YtbdpcngcbnoioaaGreatDoorGqa
import Derived.Deep.RegionLaw
set_option maxRecDepth 100000
set_option maxHeartbeats 16000000
namespace Go.Proofs.YtbdpcngcbnoioaaGreatDoor
open Go.RowKit Go.Shelf
section
variable {α:Type} {enc:α->List Value} {k:Nat}
theorem slk_src (hk0:0<k) (hk:∀ x,(enc x).length=k) {w:World} {v:Value} {l:List α} (h:SlK enc k w v l):∃ (ad:Option Addr) (cap:Nat),v= .slice ad l.length cap/\(l≠[]->∃ g off,ad=some ⟨g,off,none⟩/\∀ j u,(l.flatMap enc)[j]?=some u->w.cell? ((⟨g,off,none⟩:Addr).add j)=some u):=by
 obtain ⟨a,cap,rfl,hc,hm,hn,h4⟩:=h;refine ⟨a,cap,rfl,fun hne=>?_⟩;have h0:0<l.length:=List.length_pos_iff.2 hne;obtain ⟨g,off,rfl,hg,_⟩:=h4 0 l[0] (List.getElem?_eq_getElem h0);refine ⟨g,off,rfl,fun j u hj=>?_⟩;have hlt:j<l.length*k:=by
  have:=(List.getElem?_eq_some_iff.1 hj).1
  rwa [flat_len hk] at this
 have hq:j / k<l.length:=Nat.div_lt_of_lt_mul (by rw [Nat.mul_comm];exact hlt);have hr:j%k<k:=Nat.mod_lt _ hk0;obtain ⟨g',off',e,_,c⟩:=h4 (j / k) l[j / k] (List.getElem?_eq_getElem hq);simp only [Option.some.injEq,Addr.mk.injEq] at e;obtain ⟨rfl,rfl,_⟩:=e;have hc2:=c (j%k) hr;have e2:=flat_get hk l (List.getElem?_eq_getElem hq) (j:=j%k) hr;have e3:j / k*k+j%k=j:=by rw [Nat.mul_comm];exact Nat.div_add_mod j k
 rw [e3] at e2;rw [Nat.add_assoc,e3] at hc2;rw [Go.WideShapes.add_plain];rw [hc2,<-e2,hj]
theorem app_zeroK {tS tE:TypeId} {z:Value} {bt:Nat} (hu:Tryz.prog.underlying tS=some (.slice tE)) (hinfo:(Tryz.prog.info? tE).map (fun i=>(i.zero,i.size,i.bytes))=some (some z,k,bt)) (hk:∀ x,(enc x).length=k)
  {w:World} {B:Nat} {v:Value} {l:List α} (h:OwnK enc k tE w B v l) (ad:Option Addr) (c:Nat) (ty:TypeId):(Builtin.append_ #[tS,tS] ty #[v, .slice ad 0 c]).run Tryz.prog w= .ok v w:=by
 obtain ⟨i0,hi,hz0,hz1,hz2⟩:=info_parts hinfo;have hs:_root_.Go.Src Tryz.prog i0.size tS (.slice ad 0 c) 0 [] w:=by
  cases ad with
  | none=>exact _root_.Go.Src.ofNil w hu c
  | some a=>exact _root_.Go.Src.ofSlice w hu a 0 c [] (by simp) (by simp) (by simp)
 rcases ownK_open h hk with ⟨rfl,rfl⟩|⟨g,cap,cs,rfl,hg,hb,hss,hcc,hm,_⟩
 ·simp [Builtin.append_,run_underlying hu,sizeOf,typeInfo,hi,hs.len,hs.cells]
 ·have:=run_append_room_src (P:=Tryz.prog) w tS tS ty tE i0 hu hi g 0 l.length cap _ 0 [] hs (by omega) (by simp) (by simp);exact this
theorem wpKs {o:Oper} {a:Act} {Kk:Act->World->Prop} {Q:Exit->Act->World->Prop} {tS tE:TypeId} {z:Value} {bt:Nat} (hu:Tryz.prog.underlying tS=some (.slice tE)) (hinfo:(Tryz.prog.info? tE).map (fun i=>(i.zero,i.size,i.bytes))=some (some z,k,bt)) (hk0:0<k) (hbt:bt<=1000) (hzc:z.cells.size=k) (hk:∀ x,(enc x).length=k) (h1c:∀ x,∀ u∈enc x,u.oneCell'=true)
  (w:World) (s x:Operand) (ho:o.op= .call { callee:= .builtin .append,args:=#[s,x],argTypes:=#[tS,tS] })
  (base:Nat) (v:Value) (l:List α) (hs:a.eval s=v) (hown:OwnK enc k tE w base v l) (v2:Value) (m:List α) (hx:a.eval x=v2) (hR:SlK enc k w v2 m) (hl:l.length+m.length<=2000000) (hbase:base<=w.heap.size)
  (h:∀ v' w',OwnK enc k tE w' base v' (l++m)->w.grownBy w' v.ownBlock->Kk (a.put o.dst v') w'):Oper.wp Tryz.prog o a w Kk Q:=by
 obtain ⟨i0,hi,hz0,hz1,hz2⟩:=info_parts hinfo;obtain ⟨ad,cap,rfl,hsrc⟩:=slk_src hk0 hk hR
 by_cases hm0:m=[]
 ·subst hm0;have hrun:=app_zeroK hu hinfo hk hown ad cap o.type;unfold Oper.wp;simp [execOp,ho,resolve,invoke,builtin,hs,hx,hrun,Result.andThen];exact h v w (by simpa using hown) ⟨rfl,rfl,rfl,Nat.le_refl _,fun _ _ _=>rfl⟩
 ·obtain ⟨g,off,rfl,hnews⟩:=hsrc hm0;have hpos:0<m.length:=List.length_pos_iff.2 hm0;have hbb:(l.length+m.length)*bt<=140737488355328:=by
   have:=Nat.mul_le_mul hl hbt;omega
  refine wp_append_lies w s x tS ho base tE i0 z k bt hu hi hz0 hz1 hz2 hzc hk0 v l.length (l.flatMap enc) hs hown ⟨g,off,none⟩ m.length cap (m.flatMap enc) hx (flat_len hk m) hnews (fun u hu=>by obtain ⟨x,_,hx⟩:=List.mem_flatMap.1 hu;exact h1c x u hx) hpos (by unfold maxLen;omega) hbb hbase w.heap.size rfl ?_;intro g' cap' w' h1 h2 _ _;refine h _ w' ?_ h2
  show w'.ownsRow _ _ _ _ _ _
  rw [List.flatMap_append,List.length_append];exact h1
end
abbrev timC (p:Int×Int):List Value:=[.int .i64 p.1, .int .i64 p.2]
theorem timC_len (p:Int×Int):(timC p).length=2:=rfl
theorem ts_slk {w:World} {v:Value} {l:LI} (h:Ts w v l):SlK timC 2 w v l:=by
 obtain ⟨a,cap,rfl,h1,h2,h3,h4⟩:=h;refine ⟨a,cap,rfl,h1,h2,h3,fun i x hi=>?_⟩;obtain ⟨hlt,e⟩:=List.getElem?_eq_some_iff.1 hi;obtain ⟨g,off,ha,hg,c0,c1⟩:=h4 i hlt;refine ⟨g,off,ha,hg,fun j hj=>?_⟩;have e0:tA l i=x.1:=by simp [tA,hi]
 have e1:tB l i=x.2:=by simp [tB,hi]
 obtain rfl|rfl:j=0\/j=1:=by omega
 ·rw [Nat.add_zero,c0,e0];rfl
 ·rw [c1,e1];rfl
section
variable {ops:Array Oper} {rest:List Oper} {o:Oper} {a:Act} {Kk:Act->World->Prop} {Q:Exit->Act->World->Prop} {E:Prop}
theorem appTs (w:World) (hgd:o.guard=none) (s x:Operand) (ho:o.op= .call { callee:= .builtin .append,args:=#[s,x],argTypes:=#[27,27] })
  (base:Nat) (v:Value) (l:LI) (hs:a.eval s=v) (hown:Own w base v l) (v2:Value) (m:LI) (hx:a.eval x=v2) (hR:Ts w v2 m) (hl:l.length+m.length<=2000000) (hbase:base<=w.heap.size)
  (h:∀ v' w',Own w' base v' (l++m)->w.grownBy w' v.ownBlock->wpList Tryz.prog ops Q rest (a.put o.dst v') w'):wpList Tryz.prog ops Q (o::rest) a w :=
 wpList_plain hgd fun _ hK=>wpKs (enc:=timC) Tryz.underlying27 infoT (by omega) (by omega) rfl timC_len (fun p=>ones2 _ _) w s x ho base v l hs hown v2 m hx (ts_slk hR) hl hbase fun v' w' h1 h2=>hK _ _ (h v' w' h1 h2)
theorem stepTs (w:World) (hgd:o.guard=none) (s x:Operand) (ho:o.op= .call { callee:= .builtin .append,args:=#[s,x],argTypes:=#[27,27] })
  (base:Nat) (v:Value) (l:LI) (hs:a.eval s=v) (hown:Own w base v l) (v2:Value) (m:LI) (hx:a.eval x=v2) (hR:Ts w v2 m) (hl:l.length+m.length<=2000000) (hbase:base<=w.heap.size)
  (h:∀ v' w',Own w' base v' (l++m)->w.grownBy w' v.ownBlock->Kk (a.put o.dst v') w'):if Region.wanted o (yielded ops a.tmps)=true then Oper.wp Tryz.prog o a w Kk Q else E:=by
 rw [if_pos (by simp [Region.wanted,hgd])];exact wpKs (enc:=timC) Tryz.underlying27 infoT (by omega) (by omega) rfl timC_len (fun p=>ones2 _ _) w s x ho base v l hs hown v2 m hx (ts_slk hR) hl hbase h
end
attribute [local go_sem ↓] Go.wp_at_zero Go.wp_at_succ
def KdP (p:Nat->Prop) (w:World):PT->Value->Prop
 | .n0 _ _,s=>∃ a c,s= .slice a 0 c
 | .n1 _ _ x,s=>∃ g c sx,s= .slice (some ⟨g,0,none⟩) 1 c/\p g/\w.cell? ⟨g,0,none⟩=some (.int .i64 x.k)/\w.cell? ⟨g,1,none⟩=some (.int .i64 x.n)/\w.cell? ⟨g,2,none⟩=some sx/\KdP p w x sx
 | .n2 _ _ x y,s=>∃ g c sx sy,s= .slice (some ⟨g,0,none⟩) 2 c/\p g/\w.cell? ⟨g,0,none⟩=some (.int .i64 x.k)/\w.cell? ⟨g,1,none⟩=some (.int .i64 x.n)/\w.cell? ⟨g,2,none⟩=some sx/\w.cell? ⟨g,3,none⟩=some (.int .i64 y.k)/\w.cell? ⟨g,4,none⟩=some (.int .i64 y.n)/\w.cell? ⟨g,5,none⟩=some sy/\KdP p w x sx/\KdP p w y sy
theorem KdP.sl {p:Nat->Prop} {w:World} {t:PT} {s:Value} (h:KdP p w t s):∃ a c,s= .slice a t.len c:=by
 cases t with
 | n0 k n=>obtain ⟨a,c,rfl⟩:=h;exact ⟨_,_,rfl⟩
 | n1 k n x=>obtain ⟨g,c,sx,rfl,_⟩:=h;exact ⟨_,_,rfl⟩
 | n2 k n x y=>obtain ⟨g,c,sx,sy,rfl,_⟩:=h;exact ⟨_,_,rfl⟩
theorem KdP.move {p q:Nat->Prop} {w w':World} (H:∀ g,p g->g<w.heap.size->q g/\w'.heap[g]?=w.heap[g]?):∀ {t:PT} {s:Value},KdP p w t s->KdP q w' t s
 | .n0 _ _,_,h=>h
 | .n1 _ _ _,_,⟨g,c,sx,e,hp,h1,h2,h3,h4⟩ =>
  have H2:=H g hp (lC h1)
  ⟨g,c,sx,e,H2.1,cell_at H2.2 h1,cell_at H2.2 h2,cell_at H2.2 h3,KdP.move H h4⟩
 | .n2 _ _ _ _,_,⟨g,c,sx,sy,e,hp,h1,h2,h3,h4,h5,h6,h7,h8⟩ =>
  have H2:=H g hp (lC h1)
  ⟨g,c,sx,sy,e,H2.1,cell_at H2.2 h1,cell_at H2.2 h2,cell_at H2.2 h3,cell_at H2.2 h4,cell_at H2.2 h5,cell_at H2.2 h6,KdP.move H h7,KdP.move H h8⟩
theorem KdP.kd {p:Nat->Prop} {B:Nat} {w:World} (H:∀ g,p g->B<=g):∀ {t:PT} {s:Value},KdP p w t s->KdS B w t s
 | .n0 _ _,_,h=>h
 | .n1 _ _ _,_,⟨g,c,sx,e,hp,h1,h2,h3,h4⟩=>⟨g,0,c,sx,e,H g hp,h1,h2,h3,KdP.kd H h4⟩
 | .n2 _ _ _ _,_,⟨g,c,sx,sy,e,hp,h1,h2,h3,h4,h5,h6,h7,h8⟩=>⟨g,0,c,sx,sy,e,H g hp,h1,h2,h3,h4,h5,h6,KdP.kd H h7,KdP.kd H h8⟩
theorem kdP_of {p q:Nat->Prop} {w:World} {B:Nat} {t:PT} {sl:Value} {ps:List (Int×Int×Value)} (ho:OwnPl w B sl ps) (hl:ps.length=t.len)
  (hk:∀ j k n s,ps[j]?=some (k,n,s)->k=(t.kid j).k/\n=(t.kid j).n/\KdP p w (t.kid j) s) (hq:∀ g,B<=g->q g) (hpq:∀ g,p g->q g):KdP q w t sl:=by
 have hm:∀ {x:PT} {s:Value},KdP p w x s->KdP q w x s:=KdP.move fun g h _=>⟨hpq g h,rfl⟩
 rcases ownK_open ho plC_len with ⟨rfl,h0⟩|⟨g,cap,c,e,-⟩
 ·subst h0;cases t with
  | n0 k n=>exact ⟨_,_,rfl⟩
  | n1 k n x=>simp [PT.len] at hl
  | n2 k n x y=>simp [PT.len] at hl
 ·subst e;cases t with
  | n0 k n=>rw [hl];exact ⟨_,_,rfl⟩
  | n1 k n x =>
   match ps,hl with
   | [(a,b,s)],_ =>
    obtain ⟨e1,e2,ok⟩:=hk 0 a b s rfl;obtain ⟨hB,c0,c1,c2⟩:=OwnPl.at ho (i:=0) rfl;refine ⟨g,cap,s,rfl,hq g hB,?_,?_,by simpa using c2,hm ok⟩
    ·rw [e1] at c0;simpa [PT.kid] using c0
    ·rw [e2] at c1;simpa [PT.kid] using c1
  | n2 k n x y =>
   match ps,hl with
   | [(a,b,s),(a',b',s')],_ =>
    obtain ⟨e1,e2,ok⟩:=hk 0 a b s rfl;obtain ⟨e3,e4,ok'⟩:=hk 1 a' b' s' rfl;obtain ⟨hB,c0,c1,c2⟩:=OwnPl.at ho (i:=0) rfl;obtain ⟨_,d0,d1,d2⟩:=OwnPl.at ho (i:=1) rfl;refine ⟨g,cap,s,s',rfl,hq g hB,?_,?_,by simpa using c2,?_,?_,by simpa using d2,hm ok,hm ok'⟩
    ·rw [e1] at c0;simpa [PT.kid] using c0
    ·rw [e2] at c1;simpa [PT.kid] using c1
    ·rw [e3] at d0;simpa [PT.kid] using d0
    ·rw [e4] at d1;simpa [PT.kid] using d1
def LikePost (t:PT) (w:World) (e:Ending) (w':World):Prop:=∃ (a:Option Addr) (c:Nat),e= .returned (pl t.k t.n (.slice a t.len c))/\KdP (fun g=>w.heap.size<=g) w' t (.slice a t.len c)/\Below w.heap.size w w'
structure LikI (t:PT) (w:World) (s:Value) (b3 k:Nat) (wr:World):Prop where
 le:k<=t.len
 ps:∃ sl ps,ps.length=k/\Bk wr b3 #[.int .i64 t.k, .int .i64 t.n,sl] 25/\OwnPl wr (b3+1) sl ps/\(∀ j a b x,ps[j]?=some (a,b,x)->a=(t.kid j).k/\b=(t.kid j).n/\KdP (fun g=>b3<g/\sl.ownBlock≠some g) wr (t.kid j) x)
 arg:Bk wr w.heap.size #[.int .i64 t.k, .int .i64 t.n,s] 25
 res:Bk wr (w.heap.size+1) #[.int .i64 0, .int .i64 0, .slice none 0 0] 25
 ord:w.heap.size+1<b3
 bel:Below w.heap.size w wr
theorem likI_step {t:PT} {w:World} {s:Value} {b3 k:Nat} {wr W8 w9:World} {sl:Value} {ps:List (Int×Int×Value)} {b:Option Addr} {m c g cap:Nat} (hlt:k<t.len) (hpl:ps.length=k) (b9k:Bk wr b3 #[.int .i64 t.k, .int .i64 t.n,sl] 25) (hown:OwnPl wr (b3+1) sl ps)
  (hps:∀ j a b x,ps[j]?=some (a,b,x)->a=(t.kid j).k/\b=(t.kid j).n/\KdP (fun g=>b3<g/\sl.ownBlock≠some g) wr (t.kid j) x) (harg:Bk wr w.heap.size #[.int .i64 t.k, .int .i64 t.n,s] 25) (hres:Bk wr (w.heap.size+1) #[.int .i64 0, .int .i64 0, .slice none 0 0] 25) (h9:w.heap.size+1<b3) (hb:Below w.heap.size w wr)
  (hb8:Below wr.heap.size wr W8) (hk:KdP (fun g=>wr.heap.size<=g) W8 (t.kid k) (.slice b m c)) (hn:OwnPl w9 (b3+1) (.slice (some ⟨g,0,none⟩) (ps.length+1) cap) (ps++[((t.kid k).k,(t.kid k).n, .slice b m c)])) (hg:W8.grownBy w9 sl.ownBlock) (hor:sl.ownBlock=some g\/g=W8.heap.size) :
  LikI t w s b3 (k+1) (w9.setCell ⟨b3,2,none⟩ (.slice (some ⟨g,0,none⟩) (ps.length+1) cap)):=by
 have hlo:∀ q,sl.ownBlock=some q->b3+1<=q/\q<wr.heap.size:=fun q e=>⟨oB hown q e,oT hown q e⟩;have h9l:=b9k.lt;have hs8:=hb8.size;have hne:sl.ownBlock≠some b3:=fun e=>by have:=(hlo _ e).1;omega
 have hset:∀ x,x≠b3->(w9.setCell ⟨b3,2,none⟩ (.slice (some ⟨g,0,none⟩) (ps.length+1) cap)).heap[x]?=w9.heap[x]?:=fun x hx=>Below.heap_setCell _ _ _ _ (by show _≠_;first|exact hx|exact fun e=>hx e.symm)
 refine ⟨by omega,⟨_,ps++[((t.kid k).k,(t.kid k).n, .slice b m c)],by simp [hpl],(pl_grew (b9k.keep hb8) hg hne).set 2 _,oAz hn fun x e=>hset x (by have:=oB hn x e;omega),?_⟩,?_,?_,h9,?_⟩
 ·intro j a b' x hj
  rcases Nat.lt_or_ge j k with h|h
  ·rw [List.getElem?_append_left (by omega)] at hj;obtain ⟨e,e',ok⟩:=hps j a b' x hj;refine ⟨e,e',ok.move fun q hq hql=>?_⟩;have x1:(Value.slice (some ⟨g,0,none⟩) (ps.length+1) cap).ownBlock≠some q:=by
    intro e2;have e3:g=q:=by simpa [Value.ownBlock] using e2
    subst e3
    rcases hor with h1|h1
    ·exact hq.2 h1
    ·omega
   refine ⟨⟨hq.1,x1⟩,?_⟩;rw [hset q (by omega),hg.block q (by omega) (fun e=>hq.2 e.symm)];exact hb8.block q hql
  ·have hj2:j=k:=by
    have:=(List.getElem?_eq_some_iff.1 hj).1;simp at this;omega
   subst hj2;rw [List.getElem?_append_right (by omega),hpl,Nat.sub_self] at hj;simp only [List.getElem?_cons_zero,Option.some.injEq,Prod.mk.injEq] at hj;obtain ⟨rfl,rfl,rfl⟩:=hj;refine ⟨rfl,rfl,hk.move fun q hq hql=>?_⟩;have x1:(Value.slice (some ⟨g,0,none⟩) (ps.length+1) cap).ownBlock≠some q:=by
    intro e2;have e3:g=q:=by simpa [Value.ownBlock] using e2
    subst e3
    rcases hor with h1|h1
    ·have:=(hlo _ h1).2;omega
    ·omega
   refine ⟨⟨by omega,x1⟩,?_⟩;rw [hset q (by omega)];exact hg.block q hql (fun e=>by have:=(hlo _ e.symm).2;omega)
 ·have b2:=pl_grew (harg.keep hb8) hg (fun e=>by have:=(hlo _ e).1;omega);unfold Bk;rw [hset _ (by omega)];exact b2
 ·have b2:=pl_grew (hres.keep hb8) hg (fun e=>by have:=(hlo _ e).1;omega);unfold Bk;rw [hset _ (by omega)];exact b2
 ·exact ((bSz hb hb8).grown hg (by have:=hb.size;omega) (fun x e=>by have:=(hlo _ e).1;omega)).setCell (by show _<=b3;omega) _
section
variable {ops:Array Oper} {o:Oper} {a:Act} {Kk:Act->World->Prop} {Q:Exit->Act->World->Prop} {Ee:Prop}
theorem stepPl2 (w:World) (hgd:o.guard=none) (s x:Operand) (ho:o.op= .call { callee:= .builtin .append,args:=#[s,x],argTypes:=#[23,23] })
  (base:Nat) (v:Value) (l:List (Int×Int×Value)) (hs:a.eval s=v) (hown:OwnPl w base v l) (g0:Nat) (k n:Int) (ad:Option Addr) (i c:Nat) (hx:a.eval x= .slice (some ⟨g0,0,none⟩) 1 1)
  (hc:Bk w g0 #[.int .i64 k, .int .i64 n, .slice ad i c] 25) (hl:l.length<=2000000) (hbase:base<=w.heap.size)
  (h:∀ g cap w',OwnPl w' base (.slice (some ⟨g,0,none⟩) (l.length+1) cap) (l++[(k,n, .slice ad i c)])->w.grownBy w' v.ownBlock->(v.ownBlock=some g\/g=w.heap.size)->g<w'.heap.size->Kk (a.put o.dst (.slice (some ⟨g,0,none⟩) (l.length+1) cap)) w') :
  if Region.wanted o (yielded ops a.tmps)=true then Oper.wp Tryz.prog o a w Kk Q else Ee:=by
 obtain ⟨i0,hi,hz0,hz1,hz2⟩:=info_parts infoPl;refine step_append_lies w hgd s x 23 ho base 25 i0 _ 3 40 Tryz.underlying23 hi hz0 hz1 hz2 rfl (by decide) v l.length (l.flatMap plC) hs hown ⟨g0,0,none⟩ 1 1 (plC (k,n, .slice ad i c)) hx rfl (newsL hc) (onesPl _ _ _ _ _) (by omega) (by unfold maxLen;omega) (by omega) hbase w.heap.size rfl ?_;intro g cap w' h1 h2 h3 h4;refine h g cap w' ?_ h2 h3 h4
 show w'.ownsRow _ _ _ _ _ _
 rw [List.flatMap_append];simpa using h1
end
theorem planLike_step {t:PT} {B:Nat} {s:Value} {w:World} (hs:KdS B w t s)
  (hrec:∀ i,i<t.len->∀ (W:World) (s':Value),KdS B W (t.kid i) s'->Calls Tryz.prog 105 #[pl (t.kid i).k (t.kid i).n s'] W (LikePost (t.kid i) W)) :
  Calls Tryz.prog 105 #[pl t.k t.n s] w (LikePost t w):=by
 have HR:=(show Hid _ from hrec);have HSL:=(show Hid (KdS B w t s) from hs);obtain ⟨a,c,rfl⟩:=hs.sl;have htl:=PT.len_le t;have bA:Bk (((w.alloc (.cells #[.int .i64 t.k, .int .i64 t.n, .slice a t.len c] 25)).alloc (.cells #[.int .i64 0, .int .i64 0, .slice none 0 0] 25)).alloc (.cells #[.int .i64 t.k, .int .i64 t.n, .slice none 0 0] 25)) w.heap.size #[.int .i64 t.k, .int .i64 t.n, .slice a t.len c] 25:=((Bk.new _ _ rfl).alloc _).alloc _;have bR:Bk (((w.alloc (.cells #[.int .i64 t.k, .int .i64 t.n, .slice a t.len c] 25)).alloc (.cells #[.int .i64 0, .int .i64 0, .slice none 0 0] 25)).alloc (.cells #[.int .i64 t.k, .int .i64 t.n, .slice none 0 0] 25)) (w.heap.size+1) #[.int .i64 0, .int .i64 0, .slice none 0 0] 25:=(Bk.new _ _ (by simp)).alloc _;have bN:Bk (((w.alloc (.cells #[.int .i64 t.k, .int .i64 t.n, .slice a t.len c] 25)).alloc (.cells #[.int .i64 0, .int .i64 0, .slice none 0 0] 25)).alloc (.cells #[.int .i64 t.k, .int .i64 t.n, .slice none 0 0] 25)) (w.heap.size+2) #[.int .i64 t.k, .int .i64 t.n, .slice none 0 0] 25:=Bk.new _ _ (by simp);have hb0:Below w.heap.size w (((w.alloc (.cells #[.int .i64 t.k, .int .i64 t.n, .slice a t.len c] 25)).alloc (.cells #[.int .i64 0, .int .i64 0, .slice none 0 0] 25)).alloc (.cells #[.int .i64 t.k, .int .i64 t.n, .slice none 0 0] 25)):=bAz (bAz (bAz (Below.refl _ _) _) _) _;have bA2:Bk ((w.alloc (.cells #[.int .i64 t.k, .int .i64 t.n, .slice a t.len c] 25)).alloc (.cells #[.int .i64 0, .int .i64 0, .slice none 0 0] 25)) w.heap.size #[.int .i64 t.k, .int .i64 t.n, .slice a t.len c] 25:=(Bk.new _ _ rfl).alloc _;obtain ⟨v0,v1,v2⟩:=bA2.three';obtain ⟨x0,x1,x2⟩:=bA.three';clear hs hrec bA2;go_enter Tryz.func105,Tryz.ntmps105;go_wp2_with fail;clear v0 v1 v2 x0 x1 x2;generalize (((w.alloc (.cells #[.int .i64 t.k, .int .i64 t.n, .slice a t.len c] 25)).alloc (.cells #[.int .i64 0, .int .i64 0, .slice none 0 0] 25)).alloc (.cells #[.int .i64 t.k, .int .i64 t.n, .slice none 0 0] 25))=W0 at *
 go_loopw [14] (fun i wr=>∃ k:Nat,i= .int .i64 k/\LikI t w (.slice a t.len c) (w.heap.size+2) k wr) (fun i _=>t.len-(intOf i).toNat)
 case atStart=>exact ⟨0,rfl,Nat.zero_le _,⟨_,[],rfl,bN,oN _ _ _ _ _,fun j a b x h=>by simp at h⟩,bA,bR,by omega,hb0⟩
 case round =>
  clear bA bR bN hb0;obtain ⟨k,rfl,HI⟩:=hrel;obtain ⟨hkl,⟨sl,ps,hpl,b9k,hown,hps⟩,bA,bR,h9,hb⟩:=HI;have HP:=(show Hid _ from hps);have HO:=(show Hid (OwnPl wr (w.heap.size+2+1) sl ps) from hown);clear hown hps
  by_cases hlt2:k<t.len
  ·have ik:((k:Int)<(t.len:Int)):=by omega
   obtain ⟨g,off,sx,rfl,hgl,c0,c1,c2,hkid,b2,m2,d2,rfl⟩:=(HSL.out.keep hb).at hlt2;obtain ⟨asl,nsl,csl,esl⟩:∃ a n c,sl= .slice a n c:=by
    rcases ownK_open HO.out plC_len with ⟨h1,_⟩|⟨g1,cap1,c1',h1,_⟩
    ·exact ⟨_,_,_,h1⟩
    ·exact ⟨_,_,_,h1⟩
   subst esl;have HW:Hid (∀ V,Below wr.heap.size wr V->V.cell? ⟨w.heap.size+2,2,none⟩=some (.slice asl nsl csl)):=fun V hV=>(b9k.keep hV).three'.2.2;have hd1:Below wr.heap.size wr (wr.alloc (.cells #[.int .i64 (t.kid k).k, .int .i64 (t.kid k).n, .slice b2 m2 d2] 25)):=bAz (Below.refl _ _) _;have hd:Below wr.heap.size wr (wr.alloc (.cells #[.int .i64 (t.kid k).k, .int .i64 (t.kid k).n, .slice b2 m2 d2] 25)).drew:=hd1.drew;have HK:=(show Hid _ from fun (V:World) (hV:Below wr.heap.size wr V)=>HR.out k hlt2 V _ (hkid.keep hV));have HB:=(show Hid (Bk wr (w.heap.size+2) #[.int .i64 t.k, .int .i64 t.n, .slice asl nsl csl] 25) from b9k);have HAR:=(show Hid _ from bA);have HRS:=(show Hid _ from bR);have hzr:w.heap.size+2+1<=wr.heap.size:=by have:=b9k.lt;omega
   obtain ⟨p0,p1,p2⟩:=b9k.three';have bx:=Bk.new (w:=wr) #[.int .i64 (t.kid k).k, .int .i64 (t.kid k).n, .slice b2 m2 d2] 25 rfl;obtain ⟨z0,z1,z2⟩:=bx.three';obtain ⟨z3,z4,z5⟩:=bx.drew.three';have HBX:=(show Hid _ from bx);clear bx;clear hkid bA bR b9k;go_wp2_with fail;clear c0 c1 c2;have i1:=HW.out _ hd1;have i2:=HW.out _ hd
   go_region_law (first
    | (go_simp;go_at_call 105;refine Calls.mono (HK.out _ hd) ?_;rintro e w7 ⟨a7,c7,rfl,kd7,hb7⟩;have hc7:Below wr.heap.size wr w7:=bSz hd hb7;have hc8:Below wr.heap.size wr (w7.alloc (.cells #[.int .i64 (t.kid k).k, .int .i64 (t.kid k).n, .slice a7 (t.kid k).len c7] 25)):=bAz hc7 _;obtain ⟨q0,q1,q2⟩:=(HB.out.keep hc7).three';obtain ⟨r0,r1,r2⟩:=(HB.out.keep hc8).three';have bn:Bk (w7.alloc (.cells #[.int .i64 (t.kid k).k, .int .i64 (t.kid k).n, .slice a7 (t.kid k).len c7] 25)) w7.heap.size #[.int .i64 (t.kid k).k, .int .i64 (t.kid k).n, .slice a7 (t.kid k).len c7] 25:=Bk.new _ _ rfl;have ho8:=oKz HO.out hc8;have hz8:=Nat.le_trans hzr hc8.size)
    | (refine stepPl2 _ rfl _ _ rfl (w.heap.size+2+1) _ ps rfl ho8 _ _ _ _ _ _ rfl bn (by omega) hz8 ?_;intro g9 cap9 w9 own9 hg9 hor9 hlg;have tb9:=pl_grew (HB.out.keep hc8) hg9 (fun e=>by have:=oB ho8 _ e;omega);obtain ⟨y0,y1,y2⟩:=tb9.three';have f2:=tb9.free 2))
   all_goals
    have HN:Hid (LikI t w (.slice (some ⟨g,off,none⟩) t.len c) (w.heap.size+2) (k+1) (w9.setCell ⟨w.heap.size+2,2,none⟩ (.slice (some ⟨g9,0,none⟩) (ps.length+1) cap9))):=likI_step hlt2 hpl HB.out HO.out HP.out HAR.out HRS.out h9 hb hc8 (kd7.move fun q hq hql=>⟨Nat.le_trans hd.size hq,(bAz (Below.refl w7.heap.size w7) _).block q hql⟩) own9 hg9 hor9;have HLT:Hid (k<t.len):=hlt2;clear own9 hg9 hor9 hlg tb9 y0 y1 y2 f2 kd7 hb7 hc7 hc8 q0 q1 q2 r0 r1 r2 bn ho8 hz8 p0 p1 p2 hlt2;go_wp2_with fail;go_roundw
    case rel =>
     have h:=HN.out;rw [hpl] at h;exact ⟨k+1,by go_num,h⟩
    case measure=>have:=HLT.out;simp [intOf];omega
  ·obtain rfl:k=t.len:=by omega
   have ik:¬ ((t.len:Int)<(t.len:Int)):=by omega
   obtain ⟨p0,p1,p2⟩:=b9k.three';obtain ⟨a0',a1',a2'⟩:=bA.three';have kp:KdP (fun g=>w.heap.size+2<g) wr t sl:=kdP_of HO.out hpl HP.out (fun g h=>h) (fun g h=>h.1);obtain ⟨a5,c5,e5⟩:=kp.sl;subst e5;have f0:=bR.free 0;have q1:=bR.set 0 (.int .i64 t.k);have f1:=q1.free 1;have q2:=q1.set 1 (.int .i64 t.n);have f2:=q2.free 2;have q3:Bk (((wr.setCell ⟨w.heap.size+1,0,none⟩ (.int .i64 t.k)).setCell ⟨w.heap.size+1,1,none⟩ (.int .i64 t.n)).setCell ⟨w.heap.size+1,2,none⟩ (.slice a5 t.len c5)) (w.heap.size+1) #[.int .i64 t.k, .int .i64 t.n, .slice a5 t.len c5] 25:=q2.set 2 _;obtain ⟨y0,y1,y2⟩:=q3.three';obtain ⟨r0,r1,r2⟩:=bR.three';have hset:∀ x,x≠w.heap.size+1->(((wr.setCell ⟨w.heap.size+1,0,none⟩ (.int .i64 t.k)).setCell ⟨w.heap.size+1,1,none⟩ (.int .i64 t.n)).setCell ⟨w.heap.size+1,2,none⟩ (.slice a5 t.len c5)).heap[x]?=wr.heap[x]?:=fun x hx=>((Below.heap_setCell _ _ _ _ hx).trans (Below.heap_setCell _ _ _ _ hx)).trans (Below.heap_setCell _ _ _ _ hx);have HKP:=(show Hid _ from kp.move (q:=fun g=>w.heap.size<=g) fun x hx _=>⟨by omega,hset x (by omega)⟩);have HBF:Hid (Below w.heap.size w (((wr.setCell ⟨w.heap.size+1,0,none⟩ (.int .i64 t.k)).setCell ⟨w.heap.size+1,1,none⟩ (.int .i64 t.n)).setCell ⟨w.heap.size+1,2,none⟩ (.slice a5 t.len c5))):=((hb.setCell (by simp) _).setCell (by simp) _).setCell (by simp) _;clear kp q1 q2 q3 hset HO HP b9k bA bR hb;go_wp2_with fail;refine bodyPost_ret (v:=pl t.k t.n (.slice a5 t.len c5)) (by simp [results,Tryz.results105,go_sem,y0,y1,y2];try rfl) rfl ?_;exact ⟨a5,c5,rfl,HKP.out,HBF.out⟩
theorem planLike_any:∀ (t:PT) {B:Nat} {s:Value} {w:World},KdS B w t s->Calls Tryz.prog 105 #[pl t.k t.n s] w (LikePost t w)
 | .n0 _ _,_,_,_,hs=>planLike_step hs fun i hi=>by simp [PT.len] at hi
 | .n1 _ _ x,_,_,_,hs=>planLike_step hs fun i _ W s' h=>planLike_any x h
 | .n2 _ _ x y,_,_,_,hs=>planLike_step hs fun i _ W s' h=>by
  cases i with
  | zero=>exact planLike_any x h
  | succ i=>exact planLike_any y h
theorem l31Plan_step {t:PT} {B:Nat} {s:Value} {w:World} (hs:KdS B w t s)
  (hrec:∀ i,i<t.len->∀ (W:World) (s':Value),KdS B W (t.kid i) s'->Calls Tryz.prog 103 #[pl (t.kid i).k (t.kid i).n s'] W (LikePost (t.kid i) W)) :
  Calls Tryz.prog 103 #[pl t.k t.n s] w (LikePost t w):=by
 have HR:=(show Hid _ from hrec);have HSL:=(show Hid (KdS B w t s) from hs);obtain ⟨a,c,rfl⟩:=hs.sl;have htl:=PT.len_le t;have bA:Bk (((w.alloc (.cells #[.int .i64 t.k, .int .i64 t.n, .slice a t.len c] 25)).alloc (.cells #[.int .i64 0, .int .i64 0, .slice none 0 0] 25)).alloc (.cells #[.int .i64 t.k, .int .i64 t.n, .slice none 0 0] 25)) w.heap.size #[.int .i64 t.k, .int .i64 t.n, .slice a t.len c] 25:=((Bk.new _ _ rfl).alloc _).alloc _;have bR:Bk (((w.alloc (.cells #[.int .i64 t.k, .int .i64 t.n, .slice a t.len c] 25)).alloc (.cells #[.int .i64 0, .int .i64 0, .slice none 0 0] 25)).alloc (.cells #[.int .i64 t.k, .int .i64 t.n, .slice none 0 0] 25)) (w.heap.size+1) #[.int .i64 0, .int .i64 0, .slice none 0 0] 25:=(Bk.new _ _ (by simp)).alloc _;have bN:Bk (((w.alloc (.cells #[.int .i64 t.k, .int .i64 t.n, .slice a t.len c] 25)).alloc (.cells #[.int .i64 0, .int .i64 0, .slice none 0 0] 25)).alloc (.cells #[.int .i64 t.k, .int .i64 t.n, .slice none 0 0] 25)) (w.heap.size+2) #[.int .i64 t.k, .int .i64 t.n, .slice none 0 0] 25:=Bk.new _ _ (by simp);have hb0:Below w.heap.size w (((w.alloc (.cells #[.int .i64 t.k, .int .i64 t.n, .slice a t.len c] 25)).alloc (.cells #[.int .i64 0, .int .i64 0, .slice none 0 0] 25)).alloc (.cells #[.int .i64 t.k, .int .i64 t.n, .slice none 0 0] 25)):=bAz (bAz (bAz (Below.refl _ _) _) _) _;have bA2:Bk ((w.alloc (.cells #[.int .i64 t.k, .int .i64 t.n, .slice a t.len c] 25)).alloc (.cells #[.int .i64 0, .int .i64 0, .slice none 0 0] 25)) w.heap.size #[.int .i64 t.k, .int .i64 t.n, .slice a t.len c] 25:=(Bk.new _ _ rfl).alloc _;obtain ⟨v0,v1,v2⟩:=bA2.three';obtain ⟨x0,x1,x2⟩:=bA.three';clear hs hrec bA2;go_enter Tryz.func103,Tryz.ntmps103;go_wp2_with fail;clear v0 v1 v2 x0 x1 x2;generalize (((w.alloc (.cells #[.int .i64 t.k, .int .i64 t.n, .slice a t.len c] 25)).alloc (.cells #[.int .i64 0, .int .i64 0, .slice none 0 0] 25)).alloc (.cells #[.int .i64 t.k, .int .i64 t.n, .slice none 0 0] 25))=W0 at *
 go_loopw [4] (fun i wr=>∃ k:Nat,i= .int .i64 k/\LikI t w (.slice a t.len c) (w.heap.size+2) k wr) (fun i _=>t.len-(intOf i).toNat)
 case atStart=>exact ⟨0,rfl,Nat.zero_le _,⟨_,[],rfl,bN,oN _ _ _ _ _,fun j a b x h=>by simp at h⟩,bA,bR,by omega,hb0⟩
 case round =>
  clear bA bR bN hb0;obtain ⟨k,rfl,HI⟩:=hrel;obtain ⟨hkl,⟨sl,ps,hpl,b9k,hown,hps⟩,bA,bR,h9,hb⟩:=HI;have HP:=(show Hid _ from hps);have HO:=(show Hid (OwnPl wr (w.heap.size+2+1) sl ps) from hown);clear hown hps
  by_cases hlt2:k<t.len
  ·have ik:((k:Int)<(t.len:Int)):=by omega
   obtain ⟨g,off,sx,rfl,hgl,c0,c1,c2,hkid,b2,m2,d2,rfl⟩:=(HSL.out.keep hb).at hlt2;obtain ⟨asl,nsl,csl,esl⟩:∃ a n c,sl= .slice a n c:=by
    rcases ownK_open HO.out plC_len with ⟨h1,_⟩|⟨g1,cap1,c1',h1,_⟩
    ·exact ⟨_,_,_,h1⟩
    ·exact ⟨_,_,_,h1⟩
   subst esl;have HW:Hid (∀ V,Below wr.heap.size wr V->V.cell? ⟨w.heap.size+2,2,none⟩=some (.slice asl nsl csl)/\V.cell? ⟨w.heap.size,2,none⟩=some (.slice (some ⟨g,off,none⟩) t.len c)/\V.cell? ⟨g,off+k*3,none⟩=some (.int .i64 (t.kid k).k)/\V.cell? ⟨g,off+k*3+1,none⟩=some (.int .i64 (t.kid k).n)/\V.cell? ⟨g,off+k*3+2,none⟩=some (.slice b2 m2 d2)):=fun V hV=>⟨(b9k.keep hV).three'.2.2,(bA.keep hV).three'.2.2,cB hV c0,cB hV c1,cB hV c2⟩;have hd1:Below wr.heap.size wr wr:=Below.refl _ _;have hd:Below wr.heap.size wr wr.drew:=hd1.drew;have HK:=(show Hid _ from fun (V:World) (hV:Below wr.heap.size wr V)=>HR.out k hlt2 V _ (hkid.keep hV));have HB:=(show Hid (Bk wr (w.heap.size+2) #[.int .i64 t.k, .int .i64 t.n, .slice asl nsl csl] 25) from b9k);have HAR:=(show Hid _ from bA);have HRS:=(show Hid _ from bR);have hzr:w.heap.size+2+1<=wr.heap.size:=by have:=b9k.lt;omega
   obtain ⟨p0,p1,p2⟩:=b9k.three';obtain ⟨z0,z1,z2⟩:=bA.three';clear hkid bA bR b9k;go_wp2_with fail;clear c0 c1 c2;obtain ⟨i1,i2,i3,i4,i5⟩:=HW.out _ (Below.refl _ _);obtain ⟨j1,j2,j3,j4,j5⟩:=HW.out _ hd
   go_region_law (first
    | (go_simp;go_at_call 103;refine Calls.mono (HK.out _ hd) ?_;rintro e w7 ⟨a7,c7,rfl,kd7,hb7⟩;have hc7:Below wr.heap.size wr w7:=bSz hd hb7;have hc8:Below wr.heap.size wr (w7.alloc (.cells #[.int .i64 (t.kid k).k, .int .i64 (t.kid k).n, .slice a7 (t.kid k).len c7] 25)):=bAz hc7 _;obtain ⟨q0,q1,q2⟩:=(HB.out.keep hc7).three';obtain ⟨r0,r1,r2⟩:=(HB.out.keep hc8).three';have bn:Bk (w7.alloc (.cells #[.int .i64 (t.kid k).k, .int .i64 (t.kid k).n, .slice a7 (t.kid k).len c7] 25)) w7.heap.size #[.int .i64 (t.kid k).k, .int .i64 (t.kid k).n, .slice a7 (t.kid k).len c7] 25:=Bk.new _ _ rfl;have ho8:=oKz HO.out hc8;have hz8:=Nat.le_trans hzr hc8.size;obtain ⟨l1,l2,l3,l4,l5⟩:=HW.out _ hc7;obtain ⟨m1,m2',m3,m4,m5⟩:=HW.out _ hc8)
    | (refine stepPl2 _ rfl _ _ rfl (w.heap.size+2+1) _ ps rfl ho8 _ _ _ _ _ _ rfl bn (by omega) hz8 ?_;intro g9 cap9 w9 own9 hg9 hor9 hlg;have tb9:=pl_grew (HB.out.keep hc8) hg9 (fun e=>by have:=oB ho8 _ e;omega);obtain ⟨y0,y1,y2⟩:=tb9.three';have f2:=tb9.free 2))
   all_goals
    have HN:Hid (LikI t w (.slice (some ⟨g,off,none⟩) t.len c) (w.heap.size+2) (k+1) (w9.setCell ⟨w.heap.size+2,2,none⟩ (.slice (some ⟨g9,0,none⟩) (ps.length+1) cap9))):=likI_step hlt2 hpl HB.out HO.out HP.out HAR.out HRS.out h9 hb hc8 (kd7.move fun q hq hql=>⟨Nat.le_trans hd.size hq,(bAz (Below.refl w7.heap.size w7) _).block q hql⟩) own9 hg9 hor9;have HLT:Hid (k<t.len):=hlt2;clear own9 hg9 hor9 hlg tb9 y0 y1 y2 f2 kd7 hb7 hc7 hc8 q0 q1 q2 r0 r1 r2 bn ho8 hz8 p0 p1 p2 hlt2;go_wp2_with fail;go_roundw
    case rel =>
     have h:=HN.out;rw [hpl] at h;exact ⟨k+1,by go_num,h⟩
    case measure=>have:=HLT.out;simp [intOf];omega
  ·obtain rfl:k=t.len:=by omega
   have ik:¬ ((t.len:Int)<(t.len:Int)):=by omega
   obtain ⟨p0,p1,p2⟩:=b9k.three';obtain ⟨a0',a1',a2'⟩:=bA.three';have kp:KdP (fun g=>w.heap.size+2<g) wr t sl:=kdP_of HO.out hpl HP.out (fun g h=>h) (fun g h=>h.1);obtain ⟨a5,c5,e5⟩:=kp.sl;subst e5;have f0:=bR.free 0;have q1:=bR.set 0 (.int .i64 t.k);have f1:=q1.free 1;have q2:=q1.set 1 (.int .i64 t.n);have f2:=q2.free 2;have q3:Bk (((wr.setCell ⟨w.heap.size+1,0,none⟩ (.int .i64 t.k)).setCell ⟨w.heap.size+1,1,none⟩ (.int .i64 t.n)).setCell ⟨w.heap.size+1,2,none⟩ (.slice a5 t.len c5)) (w.heap.size+1) #[.int .i64 t.k, .int .i64 t.n, .slice a5 t.len c5] 25:=q2.set 2 _;obtain ⟨y0,y1,y2⟩:=q3.three';obtain ⟨r0,r1,r2⟩:=bR.three';have hset:∀ x,x≠w.heap.size+1->(((wr.setCell ⟨w.heap.size+1,0,none⟩ (.int .i64 t.k)).setCell ⟨w.heap.size+1,1,none⟩ (.int .i64 t.n)).setCell ⟨w.heap.size+1,2,none⟩ (.slice a5 t.len c5)).heap[x]?=wr.heap[x]?:=fun x hx=>((Below.heap_setCell _ _ _ _ hx).trans (Below.heap_setCell _ _ _ _ hx)).trans (Below.heap_setCell _ _ _ _ hx);have HKP:=(show Hid _ from kp.move (q:=fun g=>w.heap.size<=g) fun x hx _=>⟨by omega,hset x (by omega)⟩);have HBF:Hid (Below w.heap.size w (((wr.setCell ⟨w.heap.size+1,0,none⟩ (.int .i64 t.k)).setCell ⟨w.heap.size+1,1,none⟩ (.int .i64 t.n)).setCell ⟨w.heap.size+1,2,none⟩ (.slice a5 t.len c5))):=((hb.setCell (by simp) _).setCell (by simp) _).setCell (by simp) _;clear kp q1 q2 q3 hset HO HP b9k bA bR hb;go_wp2_with fail;refine bodyPost_ret (v:=pl t.k t.n (.slice a5 t.len c5)) (by simp [results,Tryz.results103,go_sem,y0,y1,y2];try rfl) rfl ?_;exact ⟨a5,c5,rfl,HKP.out,HBF.out⟩
theorem l31Plan_any:∀ (t:PT) {B:Nat} {s:Value} {w:World},KdS B w t s->Calls Tryz.prog 103 #[pl t.k t.n s] w (LikePost t w)
 | .n0 _ _,_,_,_,hs=>l31Plan_step hs fun i hi=>by simp [PT.len] at hi
 | .n1 _ _ x,_,_,_,hs=>l31Plan_step hs fun i _ W s' h=>l31Plan_any x h
 | .n2 _ _ x y,_,_,_,hs=>l31Plan_step hs fun i _ W s' h=>by
  cases i with
  | zero=>exact l31Plan_any x h
  | succ i=>exact l31Plan_any y h
attribute [local go_sem ↓] Go.wp_at_zero Go.wp_at_succ
structure SesO (w:World) (B:Nat) (sp si sf sd:Value) (s:SS):Prop where
 kd:KdP (fun g=>B<=g/\si.ownBlock≠some g) w s.t sp
 ly:∃ vs,OwnVR w B si vs/\EoR w B vs s.K
 ts:Own w B sf s.f
 rs:OwnR w B sd s.d
def fewS (s:SS):Prop:=s.K.length<=1000/\(∀ l∈s.K,l.length<=1000)/\s.f.length<=1000/\s.d.length<=1000
theorem SesO.ses {w:World} {B:Nat} {sp si sf sd:Value} {s:SS} (h:SesO w B sp si sf sd s) (hf:fewS s):Ses w sp si sf sd s:=by
 obtain ⟨vs,h1,h2⟩:=h.ly;obtain ⟨f1,f2,f3,f4⟩:=hf;exact ⟨h.kd.kd fun g _=>Nat.zero_le _,h2.ly h1 (by rw [h2.1];omega),Own.ts h.ts (by omega),OwnR.rs h.rs (by omega)⟩
theorem allS_few {s:SS} {r:List Rw} (h:allS s=some r):fewS s:=by
 obtain ⟨h1,h2,h3⟩:=allS_some.1 h;obtain ⟨a,b,e,-,ha,hb,hr⟩:=flowR_some h2;have l1:=rLz (bRz ha);have l2:=rLz (bRz hb);have l3:=rLz (bRz (planR_bok hr));have l4:=fok_len8 h1;have l5:=ahead_len s.f r;rw [h3] at l5;refine ⟨by rw [e];simp,fun l hl=>?_,by omega,by omega⟩;rw [e] at hl;simp only [List.mem_cons,List.not_mem_nil,or_false] at hl
 rcases hl with rfl|rfl<;>omega
theorem EoR.setBox {w:World} {B b i:Nat} {vs:List Value} {K:List (List Rw)} {c:Array Value} {v:Value} (h:EoR w B vs K) (hb:Bk w b c 30):EoR (w.setCell ⟨b,i,none⟩ v) B vs K :=
 ⟨h.1,fun j u l h1 h2=>by
  have ho:=h.2.1 j u l h1 h2;refine oAz ho fun q e=>Below.heap_setCell _ _ _ _ ?_;obtain ⟨d,hd⟩:=ownR_cells ho e;exact bK hd hb (by decide),h.2.2⟩
theorem OwnVR.setBox {w:World} {B b i:Nat} {u:Value} {vs:List Value} {c:Array Value} {v:Value} (h:OwnVR w B u vs) (hb:Bk w b c 30):OwnVR (w.setCell ⟨b,i,none⟩ v) B u vs :=
 oAz h fun q e=>Below.heap_setCell _ _ _ _ (by
  obtain ⟨d,hd⟩:=ownVR_cells h e;exact bK hd hb (by decide))
theorem time_blk {w:World} {B:Nat} {v:Value} {l:LI} (h:Own w B v l) {q:Nat} (e:v.ownBlock=some q):∃ c:Array Value,Bk w q c 32:=by
 rcases own_open h with ⟨rfl,_⟩|⟨g,cap,c,rfl,_,hb,_⟩
 ·simp [Value.ownBlock] at e
 ·simp [Value.ownBlock] at e;subst e;exact ⟨c,hb⟩
theorem own_setBox {w:World} {B b i:Nat} {u:Value} {l:LI} {c:Array Value} {v:Value} (h:Own w B u l) (hb:Bk w b c 30):Own (w.setCell ⟨b,i,none⟩ v) B u l :=
 oAz h fun q e=>Below.heap_setCell _ _ _ _ (by
  obtain ⟨d,hd⟩:=time_blk h e;exact bK hd hb (by decide))
theorem ownR_setBox {w:World} {B b i:Nat} {u:Value} {l:List Rw} {c:Array Value} {v:Value} (h:OwnR w B u l) (hb:Bk w b c 30):OwnR (w.setCell ⟨b,i,none⟩ v) B u l :=
 oAz h fun q e=>Below.heap_setCell _ _ _ _ (by
  obtain ⟨d,hd⟩:=ownR_cells h e;exact bK hd hb (by decide))
theorem own_slice2 {w:World} {B:Nat} {v:Value} {l:LI} (h:Own w B v l):∃ a c,v= .slice a l.length c:=by
 rcases ownK_open (enc:=timC) h timC_len with ⟨rfl,rfl⟩|⟨g,cap,c,rfl,_⟩
 ·exact ⟨_,_,rfl⟩
 ·exact ⟨_,_,rfl⟩
theorem KdP.set {p:Nat->Prop} {w:World} {b i:Nat} {v:Value} {t:PT} {s:Value} (h:KdP p w t s) (hp:∀ g,p g->g≠b):KdP p (w.setCell ⟨b,i,none⟩ v) t s :=
 h.move fun g hg _=>⟨hg,Below.heap_setCell _ _ _ _ (hp g hg)⟩
theorem KdP.keep {p:Nat->Prop} {w w':World} {t:PT} {s:Value} (h:KdP p w t s) (hb:Below w.heap.size w w'):KdP p w' t s :=
 h.move fun g hg hl=>⟨hg,hb.block g hl⟩
theorem KdP.grew {p:Nat->Prop} {w w':World} {t:PT} {s:Value} {row:Option Nat} (h:KdP p w t s) (hg:w.grownBy w' row) (hr:∀ g,p g->row≠some g):KdP p w' t s :=
 h.move fun g hp hl=>⟨hp,hg.block g hl fun e=>hr g hp e.symm⟩
structure SlI (s:SS) (w:World) (arg:Array Value) (b M k:Nat) (kids F T:Value) (fL:LI) (dL:List Rw) (wr:World):Prop where
 le:k<=s.K.length
 ps:∃ lv vs,OwnVR wr M lv vs/\EoR wr M vs (s.K.take k)/\Bk wr b #[.int .i64 s.t.k, .int .i64 s.t.n,kids,lv,F,T] 30
 kd:KdP (fun g=>w.heap.size+2<=g/\g<M/\g≠b) wr s.t kids
 ot:Own wr (w.heap.size+2) F fL
 orr:OwnR wr (w.heap.size+2) T dL
 arg:Bk wr w.heap.size arg 30
 res:Bk wr (w.heap.size+1) #[.int .i64 0, .int .i64 0, .slice none 0 0, .slice none 0 0, .slice none 0 0, .slice none 0 0] 30
 ord:w.heap.size+2<=b
 oM:b<M
 bel:Below w.heap.size w wr
theorem slI_step {s:SS} {w:World} {arg:Array Value} {b M k:Nat} {kids F T lv nv u:Value} {fL:LI} {dL:List Rw} {vs:List Value} {l:List Rw} {wr W8 w9:World} (hlt:s.K[k]?=some l) (hl:l.length<=1000000) (how:OwnVR wr M lv vs) (heo:EoR wr M vs (s.K.take k)) (hbx:Bk wr b #[.int .i64 s.t.k, .int .i64 s.t.n,kids,lv,F,T] 30)
  (hkd:KdP (fun g=>w.heap.size+2<=g/\g<M/\g≠b) wr s.t kids) (hot:Own wr (w.heap.size+2) F fL) (hor:OwnR wr (w.heap.size+2) T dL) (harg:Bk wr w.heap.size arg 30) (hres:Bk wr (w.heap.size+1) #[.int .i64 0, .int .i64 0, .slice none 0 0, .slice none 0 0, .slice none 0 0, .slice none 0 0] 30) (hord:w.heap.size+2<=b) (hoM:b<M) (hb:Below w.heap.size w wr) (hM:M<=wr.heap.size) (hb8:Below wr.heap.size wr W8) (hu:OwnR W8 wr.heap.size u l)
  (hn:OwnVR w9 M nv (vs++[u])) (hg:W8.grownBy w9 lv.ownBlock):SlI s w arg b M (k+1) kids F T fL dL (w9.setCell ⟨b,3,none⟩ nv):=by
 have hne:∀ {q b:Nat} {c:Array Value},lv.ownBlock=some q->Bk wr b c 30->b≠q:=fun e hbk=>by
  obtain ⟨d,hd⟩:=ownVR_cells how e;exact bK hbk hd (by decide)
 have hset:∀ x,x≠b->(w9.setCell ⟨b,3,none⟩ nv).heap[x]?=w9.heap[x]?:=fun x hx=>Below.heap_setCell _ _ _ _ hx;have how8:OwnVR W8 M lv vs:=oKz how hb8;have hs8:=hb8.size;have b9:Bk w9 b #[.int .i64 s.t.k, .int .i64 s.t.n,kids,lv,F,T] 30:=(hbx.keep hb8).grew hg fun q e=>hne e hbx;refine ⟨by have:=(List.getElem?_eq_some_iff.1 hlt).1;omega,⟨nv,vs++[u],oAz hn fun q e=>hset q (by have:=oB hn q e;omega),?_,b9.set 3 nv⟩,?_,?_,?_,?_,?_,hord,hoM,?_⟩
 ·refine EoR.setBox ?_ b9;rw [tSz hlt];exact ((heo.keep hb8).snoc (oLz hu hM) hl).grew how8 hg
 ·refine KdP.set (KdP.grew (hkd.keep hb8) hg fun g hp e=>?_) fun g hp=>hp.2.2;have:=oB how g e;omega
 ·have o8:Own W8 (w.heap.size+2) F fL:=oKz hot hb8;refine own_setBox (oAz o8 fun q e=>hg.block q (oT o8 q e) fun e'=>?_) b9;obtain ⟨c,hc⟩:=time_blk o8 e;obtain ⟨d,hd⟩:=ownVR_cells how8 e'.symm;exact bK hc hd (by decide) rfl
 ·have o8:OwnR W8 (w.heap.size+2) T dL:=oKz hor hb8;refine ownR_setBox (oAz o8 fun q e=>hg.block q (oT o8 q e) fun e'=>?_) b9;obtain ⟨c,hc⟩:=ownR_cells o8 e;obtain ⟨d,hd⟩:=ownVR_cells how8 e'.symm;exact bK hc hd (by decide) rfl
 ·unfold Bk;rw [hset _ (by omega)];exact (harg.keep hb8).grew hg fun q e=>hne e harg
 ·unfold Bk;rw [hset _ (by omega)];exact (hres.keep hb8).grew hg fun q e=>hne e hres
 ·exact ((bSz hb hb8).grown hg (by have:=hb.size;omega) (fun x e=>by have:=oB how x e;omega)).setCell (by show _<=b;omega) _
theorem sessLike_any {s:SS} {sp si sf sd:Value} {w:World} (h:Ses w sp si sf sd s) (hfew:fewS s) :
  Calls Tryz.prog 82 #[sv s.t.k s.t.n sp si sf sd] w fun e w'=>∃ sp' si' sf' sd',e= .returned (sv s.t.k s.t.n sp' si' sf' sd')/\SesO w' w.heap.size sp' si' sf' sd' s/\Below w.heap.size w w':=by
 have HS:=(show Hid (Ses w sp si sf sd s) from h);obtain ⟨a0,c0,a1,c1,a2,c2,a3,c3,rfl,rfl,rfl,rfl⟩:=h.sl;obtain ⟨f1,f2,f3,f4⟩:=hfew;have HW:=(show Hid (∀ l∈s.K,l.length<=1000) from f2);have bA:Bk ((w.alloc (.cells (sc s.t.k s.t.n (.slice a0 s.t.len c0) (.slice a1 s.K.length c1) (.slice a2 s.f.length c2) (.slice a3 s.d.length c3)) 30)).alloc (.cells #[.int .i64 0, .int .i64 0, .slice none 0 0, .slice none 0 0, .slice none 0 0, .slice none 0 0] 30)) w.heap.size (sc s.t.k s.t.n (.slice a0 s.t.len c0) (.slice a1 s.K.length c1) (.slice a2 s.f.length c2) (.slice a3 s.d.length c3)) 30:=(Bk.new _ _ rfl).alloc _;have bR:Bk ((w.alloc (.cells (sc s.t.k s.t.n (.slice a0 s.t.len c0) (.slice a1 s.K.length c1) (.slice a2 s.f.length c2) (.slice a3 s.d.length c3)) 30)).alloc (.cells #[.int .i64 0, .int .i64 0, .slice none 0 0, .slice none 0 0, .slice none 0 0, .slice none 0 0] 30)) (w.heap.size+1) #[.int .i64 0, .int .i64 0, .slice none 0 0, .slice none 0 0, .slice none 0 0, .slice none 0 0] 30:=Bk.new _ _ (by simp);have hb0:Below w.heap.size w ((w.alloc (.cells (sc s.t.k s.t.n (.slice a0 s.t.len c0) (.slice a1 s.K.length c1) (.slice a2 s.f.length c2) (.slice a3 s.d.length c3)) 30)).alloc (.cells #[.int .i64 0, .int .i64 0, .slice none 0 0, .slice none 0 0, .slice none 0 0, .slice none 0 0] 30)):=bAz (bAz (Below.refl _ _) _) _;have hz0:((w.alloc (.cells (sc s.t.k s.t.n (.slice a0 s.t.len c0) (.slice a1 s.K.length c1) (.slice a2 s.f.length c2) (.slice a3 s.d.length c3)) 30)).alloc (.cells #[.int .i64 0, .int .i64 0, .slice none 0 0, .slice none 0 0, .slice none 0 0, .slice none 0 0] 30)).heap.size=w.heap.size+2:=by simp
 obtain ⟨x0,x1,x2,x3,x4,x5⟩:=bA.six;have hkd:=(h.keep hb0).kd;clear h f2;go_enter Tryz.func82,Tryz.ntmps82;go_wp2_with fail;generalize ((w.alloc (.cells (sc s.t.k s.t.n (.slice a0 s.t.len c0) (.slice a1 s.K.length c1) (.slice a2 s.f.length c2) (.slice a3 s.d.length c3)) 30)).alloc (.cells #[.int .i64 0, .int .i64 0, .slice none 0 0, .slice none 0 0, .slice none 0 0, .slice none 0 0] 30))=W0 at *;refine (planLike_any s.t hkd).mono ?_;rintro e w1 ⟨ak,ck,rfl,kp,hb1⟩;rw [hz0] at kp;have bA1:=bA.keep hb1;have bR1:=bR.keep hb1;have hbw1:=bSz hb0 hb1;have hz1:w.heap.size+2<=w1.heap.size:=by have:=hb1.size;omega
 clear x0 x1 x2 x3 x4 x5 bA bR hb0 hb1 hkd hz0;have bN:Bk (w1.alloc (.cells #[.int .i64 s.t.k, .int .i64 s.t.n, .slice ak s.t.len ck,nilV,nilV,nilV] 30)) w1.heap.size #[.int .i64 s.t.k, .int .i64 s.t.n, .slice ak s.t.len ck,nilV,nilV,nilV] 30:=Bk.new _ _ rfl;have hbN:Below w1.heap.size w1 (w1.alloc (.cells #[.int .i64 s.t.k, .int .i64 s.t.n, .slice ak s.t.len ck,nilV,nilV,nilV] 30)):=bAz (Below.refl _ _) _;have HI0:Hid (SlI s w (sc s.t.k s.t.n (.slice a0 s.t.len c0) (.slice a1 s.K.length c1) (.slice a2 s.f.length c2) (.slice a3 s.d.length c3)) w1.heap.size (w1.heap.size+1) 0 (.slice ak s.t.len ck) nilV nilV [] [] (w1.alloc (.cells #[.int .i64 s.t.k, .int .i64 s.t.n, .slice ak s.t.len ck,nilV,nilV,nilV] 30))) :=
  ⟨Nat.zero_le _,⟨_,[],oN _ _ _ _ _,EoR.nil _ _,bN⟩,kp.move fun g hg hl=>⟨⟨hg,by omega,by omega⟩,hbN.block g hl⟩,oN _ _ _ _ _,oN _ _ _ _ _,bA1.keep hbN,bR1.keep hbN,hz1,by omega,bSz hbw1 hbN⟩
 obtain ⟨x0,x1,x2,x3,x4,x5⟩:=(bA1.keep hbN).six;clear kp bA1 bR1 bN hbN hbw1 hz1;go_wp2_with fail;clear x0 x1 x2 x3 x4 x5;generalize (w1.alloc (.cells #[.int .i64 s.t.k, .int .i64 s.t.n, .slice ak s.t.len ck,nilV,nilV,nilV] 30))=W3 at *;generalize w1.heap.size=b3 at *;generalize hKids:(Value.slice ak s.t.len ck)=kids at *;clear hKids
 go_loopw [13] (fun i wr=>∃ k:Nat,i= .int .i64 k/\SlI s w (sc s.t.k s.t.n (.slice a0 s.t.len c0) (.slice a1 s.K.length c1) (.slice a2 s.f.length c2) (.slice a3 s.d.length c3)) b3 (b3+1) k kids nilV nilV [] [] wr) (fun i _=>s.K.length-(intOf i).toNat)
 case atStart=>exact ⟨0,rfl,HI0.out⟩
 case round =>
  clear HI0;obtain ⟨k,rfl,hI⟩:=hrel;obtain ⟨hkl,⟨lv,vs,hov,heo,bB⟩,hkp,hot,hor,bA,bR,hord,-,hb⟩:=hI;have HO:=(show Hid (OwnVR wr (b3+1) lv vs) from hov);have HE:=(show Hid (EoR wr (b3+1) vs (s.K.take k)) from heo);have HKP:=(show Hid (KdP (fun g=>w.heap.size+2<=g/\g<b3+1/\g≠b3) wr s.t kids) from hkp);have HV:Hid (vs.length=k):=by show _=_;rw [heo.1,List.length_take];omega
  have hsz:=hb.size;have h3l:=bB.lt;clear hov heo hkp
  by_cases hlt:k<s.K.length
  ·obtain ⟨l,hl'⟩:∃ l,s.K[k]?=some l:=⟨_,List.getElem?_eq_getElem hlt⟩;obtain ⟨a',cap',e',-,-,-,hcell⟩:=(HS.out.keep hb).ly.open;cases e';obtain ⟨g,off,ad,cp,rfl,hgl,c00,hR⟩:=hcell k l hl';have ik:((k:Int)<(s.K.length:Int)):=by omega
   have HL:=(show Hid (s.K[k]?=some l) from hl');have hll:l.length<=1000:=HW.out l (List.mem_of_getElem? hl');obtain ⟨av,nv,cv,elv⟩:∃ a n c,lv= .slice a n c:=by
    obtain ⟨a,c,e,-⟩:=OwnVR.vs HO.out (by have:=HV.out;omega);exact ⟨a,_,c,e⟩
   subst elv;have hd:Below wr.heap.size wr wr.drew:=(Below.refl _ _).drew;have OE:OwnR wr.drew wr.heap.size (.slice none 0 0) []:=oN _ _ _ _ _;have RE:Rs wr.drew (.slice ad l.length cp) l:=hR.keep hd;have HB:=(show Hid (Bk wr b3 #[.int .i64 s.t.k, .int .i64 s.t.n,kids, .slice av nv cv,nilV,nilV] 30) from bB);have HA:=(show Hid (Bk wr w.heap.size (sc s.t.k s.t.n (.slice a0 s.t.len c0) (.slice (some ⟨g,off,none⟩) s.K.length c1) (.slice a2 s.f.length c2) (.slice a3 s.d.length c3)) 30) from bA);have HR:=(show Hid (Bk wr (w.heap.size+1) #[.int .i64 0, .int .i64 0, .slice none 0 0, .slice none 0 0, .slice none 0 0, .slice none 0 0] 30) from bR);obtain ⟨x0,x1,x2,x3,x4,x5⟩:=bB.six;obtain ⟨y0,y1,y2,y3,y4,y5⟩:=bB.drew.six;have hz3:b3+1<=wr.heap.size:=h3l;clear hcell hl' hR bA bB bR;go_wp2_with fail
   go_region_law (first
    | (refine stepRs _ rfl _ _ rfl wr.heap.size _ [] rfl OE _ l rfl RE (by simp;omega) (by simp) ?_;intro v7 w7 own7 hg7;obtain ⟨a7,c7,rfl⟩:∃ a c,v7= .slice a l.length c:=(by obtain ⟨a,c,e,_⟩:=Rs.open (OwnR.rs own7 (by simp;omega));exact ⟨a,c,by simpa using e⟩);have own7':OwnR w7 wr.heap.size (.slice a7 l.length c7) l:=own7;have hb7:Below wr.heap.size wr w7:=Below.grew hd hg7 (by simp) (oB OE);have hb8:Below wr.heap.size wr (w7.alloc (.cells #[.slice a7 l.length c7] 28)):=bAz hb7 _;have O8:OwnVR (w7.alloc (.cells #[.slice a7 l.length c7] 28)) (b3+1) (.slice av nv cv) vs:=oKz HO.out hb8;have B8:Bk (w7.alloc (.cells #[.slice a7 l.length c7] 28)) w7.heap.size #[.slice a7 l.length c7] 28:=Bk.new _ _ rfl;have hz8:b3+1<=(w7.alloc (.cells #[.slice a7 l.length c7] 28)).heap.size:=Nat.le_trans hz3 hb8.size;obtain ⟨p0,p1,p2,p3,p4,p5⟩:=(HB.out.keep hb7).six;obtain ⟨q0,q1,q2,q3,q4,q5⟩:=(HB.out.keep hb8).six;have hu8:OwnR (w7.alloc (.cells #[.slice a7 l.length c7] 28)) wr.heap.size (.slice a7 l.length c7) l:=own7'.alloc _)
    | (refine stepVR _ rfl _ _ rfl (b3+1) (.slice av nv cv) vs rfl O8 _ _ _ _ rfl B8 (by have:=HV.out;omega) hz8 ?_;intro g9 cap9 w9 own9 hg9 hl9;have b9:=(HB.out.keep hb8).grew hg9 (fun q e=>by obtain ⟨d,hd'⟩:=ownVR_cells O8 e;exact bK (HB.out.keep hb8) hd' (by decide));obtain ⟨r0,r1,r2,r3,r4,r5⟩:=b9.six;have fr3:=b9.free 3))
   all_goals
    have HN:Hid (SlI s w (sc s.t.k s.t.n (.slice a0 s.t.len c0) (.slice (some ⟨g,off,none⟩) s.K.length c1) (.slice a2 s.f.length c2) (.slice a3 s.d.length c3)) b3 (b3+1) (k+1) kids nilV nilV [] [] (w9.setCell ⟨b3,3,none⟩ (.slice (some ⟨g9,0,none⟩) (vs.length+1) cap9))):=slI_step HL.out (by omega) HO.out HE.out HB.out HKP.out hot hor HA.out HR.out hord (by omega) hb hz3 hb8 hu8 own9 hg9;have HLT:Hid (k<s.K.length):=hlt;clear own9 hg9 hl9 b9 r0 r1 r2 r3 r4 r5 fr3 own7 own7' hg7 hb7 hb8 O8 B8 hz8 p0 p1 p2 p3 p4 p5 q0 q1 q2 q3 q4 q5 hu8 x0 x1 x2 x3 x4 x5 y0 y1 y2 y3 y4 y5 hlt;generalize w9.setCell ⟨b3,3,none⟩ (.slice (some ⟨g9,0,none⟩) (vs.length+1) cap9)=wN at *;go_wp2_with fail;go_roundw
    case rel=>exact ⟨k+1,by go_num,HN.out⟩
    case measure=>have:=HLT.out;simp [intOf];omega
  ·obtain rfl:k=s.K.length:=by omega
   have ik:¬ ((s.K.length:Int)<(s.K.length:Int)):=by omega
   rw [List.take_length] at HE;have hvl:=HV.out;obtain ⟨av,nv,cv,elv⟩:∃ a n c,lv= .slice a n c:=by
    obtain ⟨a,c,e,-⟩:=OwnVR.vs HO.out (by omega);exact ⟨a,_,c,e⟩
   subst elv;have T0:=(HS.out.keep hb).ts;have R0:=(HS.out.keep hb).rs;have OT:Own wr (b3+1) (.slice none 0 0) []:=oN _ _ _ _ _;obtain ⟨x0,x1,x2,x3,x4,x5⟩:=bB.six;obtain ⟨y0,y1,y2,y3,y4,y5⟩:=bA.six;have HB:=(show Hid (Bk wr b3 #[.int .i64 s.t.k, .int .i64 s.t.n,kids, .slice av nv cv,nilV,nilV] 30) from bB);have HA:=(show Hid (Bk wr w.heap.size (sc s.t.k s.t.n (.slice a0 s.t.len c0) (.slice a1 s.K.length c1) (.slice a2 s.f.length c2) (.slice a3 s.d.length c3)) 30) from bA);have HR:=(show Hid (Bk wr (w.heap.size+1) #[.int .i64 0, .int .i64 0, .slice none 0 0, .slice none 0 0, .slice none 0 0, .slice none 0 0] 30) from bR);clear bA bB bR
   go_upto_region 8 with (at_builtin;refine appTs _ rfl _ _ rfl (b3+1) _ [] rfl OT _ s.f rfl T0 (by simp;omega) (by omega) ?_;intro v5 w5 own5 hg5;obtain ⟨a5,c5,rfl⟩:∃ a c,v5= .slice a s.f.length c:=own_slice2 (l:=s.f) own5;have hb5:Below wr.heap.size wr w5:=Below.grew (Below.refl _ _) hg5 (by omega) (fun q e=>by cases e);have b5:=HB.out.keep hb5;obtain ⟨z0,z1,z2,z3,z4,z5⟩:=b5.six;have fz4:=b5.free 4)
   obtain ⟨hov6,heo6,hot6,hkp6,bB6,bA6,bR6,hb6⟩:OwnVR (w5.setCell ⟨b3,4,none⟩ (.slice a5 s.f.length c5)) (b3+1) (.slice av nv cv) vs/\EoR (w5.setCell ⟨b3,4,none⟩ (.slice a5 s.f.length c5)) (b3+1) vs s.K/\Own (w5.setCell ⟨b3,4,none⟩ (.slice a5 s.f.length c5)) (b3+1) (.slice a5 s.f.length c5) s.f/\KdP (fun g=>w.heap.size+2<=g/\g<b3+1/\g≠b3) (w5.setCell ⟨b3,4,none⟩ (.slice a5 s.f.length c5)) s.t kids /\
     Bk (w5.setCell ⟨b3,4,none⟩ (.slice a5 s.f.length c5)) b3 #[.int .i64 s.t.k, .int .i64 s.t.n,kids, .slice av nv cv, .slice a5 s.f.length c5,nilV] 30/\Bk (w5.setCell ⟨b3,4,none⟩ (.slice a5 s.f.length c5)) w.heap.size (sc s.t.k s.t.n (.slice a0 s.t.len c0) (.slice a1 s.K.length c1) (.slice a2 s.f.length c2) (.slice a3 s.d.length c3)) 30/\Bk (w5.setCell ⟨b3,4,none⟩ (.slice a5 s.f.length c5)) (w.heap.size+1) #[.int .i64 0, .int .i64 0, .slice none 0 0, .slice none 0 0, .slice none 0 0, .slice none 0 0] 30/\Below w.heap.size w (w5.setCell ⟨b3,4,none⟩ (.slice a5 s.f.length c5)):=by
    have hset:∀ x,x≠b3->(w5.setCell ⟨b3,4,none⟩ (.slice a5 s.f.length c5)).heap[x]?=w5.heap[x]?:=fun x hx=>Below.heap_setCell _ _ _ _ hx;refine ⟨OwnVR.setBox (oKz HO.out hb5) b5,EoR.setBox (HE.out.keep hb5) b5,own_setBox own5 b5,KdP.set (HKP.out.keep hb5) (fun g hp=>hp.2.2),b5.set 4 _,?_,?_,(bSz hb hb5).setCell (by show _<=b3;omega) _⟩
    ·unfold Bk;rw [hset _ (by omega)];exact HA.out.keep hb5
    ·unfold Bk;rw [hset _ (by omega)];exact HR.out.keep hb5
   clear x0 x1 x2 x3 x4 x5 y0 y1 y2 y3 y4 y5 z0 z1 z2 z3 z4 z5 fz4 b5 hb5 own5 hg5 HO HE HKP HA HB HR T0 R0 OT hb hsz;generalize (w5.setCell ⟨b3,4,none⟩ (.slice a5 s.f.length c5))=w6 at *;have hsz6:=hb6.size;have h36:=bB6.lt;have R6:=(HS.out.keep hb6).rs;have OR6:OwnR w6 (b3+1) (.slice none 0 0) []:=oN _ _ _ _ _;obtain ⟨x0,x1,x2,x3,x4,x5⟩:=bB6.six;obtain ⟨y0,y1,y2,y3,y4,y5⟩:=bA6.six;have HB:=(show Hid (Bk w6 b3 #[.int .i64 s.t.k, .int .i64 s.t.n,kids, .slice av nv cv, .slice a5 s.f.length c5,nilV] 30) from bB6);have HO:=(show Hid (OwnVR w6 (b3+1) (.slice av nv cv) vs) from hov6);have HE:=(show Hid (EoR w6 (b3+1) vs s.K) from heo6);have HT:=(show Hid (Own w6 (b3+1) (.slice a5 s.f.length c5) s.f) from hot6);have HKP:=(show Hid (KdP (fun g=>w.heap.size+2<=g/\g<b3+1/\g≠b3) w6 s.t kids) from hkp6);have HR:=(show Hid (Bk w6 (w.heap.size+1) #[.int .i64 0, .int .i64 0, .slice none 0 0, .slice none 0 0, .slice none 0 0, .slice none 0 0] 30) from bR6);clear bB6 bA6 bR6 hov6 heo6 hot6 hkp6
   go_upto_region 9 with (at_builtin;refine appRs _ rfl _ _ rfl (b3+1) _ [] rfl OR6 _ s.d rfl R6 (by simp;omega) (by omega) ?_;intro v7 w7 own7 hg7;obtain ⟨a7,c7,rfl⟩:∃ a c,v7= .slice a s.d.length c:=(by obtain ⟨a,c,e,_⟩:=Rs.open (OwnR.rs own7 (by simp;omega));exact ⟨a,c,by simpa using e⟩);have hb7:Below w6.heap.size w6 w7:=Below.grew (Below.refl _ _) hg7 (by omega) (fun q e=>by cases e);have b7:=HB.out.keep hb7;obtain ⟨z0,z1,z2,z3,z4,z5⟩:=b7.six;have fz5:=b7.free 5)
   have own7':OwnR w7 (b3+1) (.slice a7 s.d.length c7) s.d:=own7;obtain ⟨hov8,heo8,hot8,hor8,hkp8,bB8,bR8,hb8⟩:OwnVR (w7.setCell ⟨b3,5,none⟩ (.slice a7 s.d.length c7)) (b3+1) (.slice av nv cv) vs/\EoR (w7.setCell ⟨b3,5,none⟩ (.slice a7 s.d.length c7)) (b3+1) vs s.K/\Own (w7.setCell ⟨b3,5,none⟩ (.slice a7 s.d.length c7)) (b3+1) (.slice a5 s.f.length c5) s.f/\OwnR (w7.setCell ⟨b3,5,none⟩ (.slice a7 s.d.length c7)) (b3+1) (.slice a7 s.d.length c7) s.d/\KdP (fun g=>w.heap.size+2<=g/\g<b3+1/\g≠b3) (w7.setCell ⟨b3,5,none⟩ (.slice a7 s.d.length c7)) s.t kids /\
     Bk (w7.setCell ⟨b3,5,none⟩ (.slice a7 s.d.length c7)) b3 #[.int .i64 s.t.k, .int .i64 s.t.n,kids, .slice av nv cv, .slice a5 s.f.length c5, .slice a7 s.d.length c7] 30/\Bk (w7.setCell ⟨b3,5,none⟩ (.slice a7 s.d.length c7)) (w.heap.size+1) #[.int .i64 0, .int .i64 0, .slice none 0 0, .slice none 0 0, .slice none 0 0, .slice none 0 0] 30/\Below w.heap.size w (w7.setCell ⟨b3,5,none⟩ (.slice a7 s.d.length c7)):=by
    have hset:∀ x,x≠b3->(w7.setCell ⟨b3,5,none⟩ (.slice a7 s.d.length c7)).heap[x]?=w7.heap[x]?:=fun x hx=>Below.heap_setCell _ _ _ _ hx;refine ⟨OwnVR.setBox (oKz HO.out hb7) b7,EoR.setBox (HE.out.keep hb7) b7,own_setBox (oKz HT.out hb7) b7,ownR_setBox own7' b7,KdP.set (HKP.out.keep hb7) (fun g hp=>hp.2.2),b7.set 5 _,?_,(bSz hb6 hb7).setCell (by show _<=b3;omega) _⟩;unfold Bk;rw [hset _ (by omega)];exact HR.out.keep hb7
   clear x0 x1 x2 x3 x4 x5 y0 y1 y2 y3 y4 y5 z0 z1 z2 z3 z4 z5 fz5 b7 hb7 own7 own7' hg7 HO HE HKP HB HR HT R6 OR6 hb6 hsz6;generalize (w7.setCell ⟨b3,5,none⟩ (.slice a7 s.d.length c7))=w8 at *;obtain ⟨x0,x1,x2,x3,x4,x5⟩:=bB8.six;obtain ⟨kk,kn,kc,ekids⟩:∃ a n c,kids= .slice a n c:=by
    obtain ⟨a,c,e⟩:=hkp8.sl;exact ⟨a,_,c,e⟩
   subst ekids;obtain ⟨y0,y1,y2,y3,y4,y5⟩:=bR8.six;have g0:=bR8.free 0;have q1:=bR8.set 0 (.int .i64 s.t.k);have g1:=q1.free 1;have q2:=q1.set 1 (.int .i64 s.t.n);have g2:=q2.free 2;have q3:=q2.set 2 (.slice kk kn kc);have g3:=q3.free 3;have q4:=q3.set 3 (.slice av nv cv);have g4:=q4.free 4;have q5:=q4.set 4 (.slice a5 s.f.length c5);have g5:=q5.free 5;have q6:Bk ((((((w8.setCell ⟨w.heap.size+1,0,none⟩ (.int .i64 s.t.k)).setCell ⟨w.heap.size+1,1,none⟩ (.int .i64 s.t.n)).setCell ⟨w.heap.size+1,2,none⟩ (.slice kk kn kc)).setCell ⟨w.heap.size+1,3,none⟩ (.slice av nv cv)).setCell ⟨w.heap.size+1,4,none⟩ (.slice a5 s.f.length c5)).setCell ⟨w.heap.size+1,5,none⟩ (.slice a7 s.d.length c7)) (w.heap.size+1) #[.int .i64 s.t.k, .int .i64 s.t.n, .slice kk kn kc, .slice av nv cv, .slice a5 s.f.length c5, .slice a7 s.d.length c7] 30:=q5.set 5 (.slice a7 s.d.length c7);obtain ⟨r0,r1,r2,r3,r4,r5⟩:=q6.six;have hset:∀ x,x≠w.heap.size+1->((((((w8.setCell ⟨w.heap.size+1,0,none⟩ (.int .i64 s.t.k)).setCell ⟨w.heap.size+1,1,none⟩ (.int .i64 s.t.n)).setCell ⟨w.heap.size+1,2,none⟩ (.slice kk kn kc)).setCell ⟨w.heap.size+1,3,none⟩ (.slice av nv cv)).setCell ⟨w.heap.size+1,4,none⟩ (.slice a5 s.f.length c5)).setCell ⟨w.heap.size+1,5,none⟩ (.slice a7 s.d.length c7)).heap[x]?=w8.heap[x]?:=fun x hx=>(((((Below.heap_setCell _ _ _ _ hx).trans (Below.heap_setCell _ _ _ _ hx)).trans (Below.heap_setCell _ _ _ _ hx)).trans (Below.heap_setCell _ _ _ _ hx)).trans (Below.heap_setCell _ _ _ _ hx)).trans (Below.heap_setCell _ _ _ _ hx);have HF:Hid (SesO ((((((w8.setCell ⟨w.heap.size+1,0,none⟩ (.int .i64 s.t.k)).setCell ⟨w.heap.size+1,1,none⟩ (.int .i64 s.t.n)).setCell ⟨w.heap.size+1,2,none⟩ (.slice kk kn kc)).setCell ⟨w.heap.size+1,3,none⟩ (.slice av nv cv)).setCell ⟨w.heap.size+1,4,none⟩ (.slice a5 s.f.length c5)).setCell ⟨w.heap.size+1,5,none⟩ (.slice a7 s.d.length c7)) w.heap.size (.slice kk kn kc) (.slice av nv cv) (.slice a5 s.f.length c5) (.slice a7 s.d.length c7) s):=by
    refine ⟨hkp8.move fun x hx _=>⟨⟨by omega,fun e=>by have:=oB hov8 x e;omega⟩,hset x (by omega)⟩,⟨vs,oLz (oAz hov8 fun q e=>hset q (by have:=oB hov8 q e;omega)) (by omega),?_⟩,oLz (oAz hot8 fun q e=>hset q (by have:=oB hot8 q e;omega)) (by omega),oLz (oAz hor8 fun q e=>hset q (by have:=oB hor8 q e;omega)) (by omega)⟩;refine EoR.less ⟨heo8.1,fun i u l h1 h2=>?_,heo8.2.2⟩ (show w.heap.size<=b3+1 by omega);have ho:=heo8.2.1 i u l h1 h2;exact oAz ho fun q e=>hset q (by have:=oB ho q e;omega)
   have HBF:Hid (Below w.heap.size w ((((((w8.setCell ⟨w.heap.size+1,0,none⟩ (.int .i64 s.t.k)).setCell ⟨w.heap.size+1,1,none⟩ (.int .i64 s.t.n)).setCell ⟨w.heap.size+1,2,none⟩ (.slice kk kn kc)).setCell ⟨w.heap.size+1,3,none⟩ (.slice av nv cv)).setCell ⟨w.heap.size+1,4,none⟩ (.slice a5 s.f.length c5)).setCell ⟨w.heap.size+1,5,none⟩ (.slice a7 s.d.length c7))):=(((((hb8.setCell (by simp) _).setCell (by simp) _).setCell (by simp) _).setCell (by simp) _).setCell (by simp) _).setCell (by simp) _;clear hov8 heo8 hot8 hor8 hkp8 bB8 bR8 hb8 hset q1 q2 q3 q4 q5 q6;go_wp2_with fail;refine bodyPost_ret (v:=sv s.t.k s.t.n (.slice kk kn kc) (.slice av nv cv) (.slice a5 s.f.length c5) (.slice a7 s.d.length c7)) (by simp [results,Tryz.results82,go_sem,r0,r1,r2,r3,r4,r5];try rfl) rfl ?_;exact ⟨_,_,_,_,rfl,HF.out,HBF.out⟩
end Go.Proofs.YtbdpcngcbnoioaaGreatDoor
