import Derived.Test.YtbdpcngcbnoioaaDoorGqa
import Derived.Deep.RegionLaw
set_option maxRecDepth 100000
set_option maxHeartbeats 16000000
namespace Go.Proofs.YtbdpcngcbnoioaaDoor
open Go.RowKit Go.Shelf
attribute [local go_sem ↓] Go.wp_at_zero Go.wp_at_succ
def KdP (p:Nat->Prop) (w:World):PT->Value->Prop
 | .n0 _ _,s=>∃ a c,s= .slice a 0 c
 | .n1 _ _ x,s=>∃ g c sx,s= .slice (some ⟨g,0,none⟩) 1 c/\p g/\w.cell? ⟨g,0,none⟩=some (.int .i64 x.k)/\w.cell? ⟨g,1,none⟩=some (.int .i64 x.n)/\w.cell? ⟨g,2,none⟩=some sx/\KdP p w x sx
 | .n2 _ _ x y,s=>∃ g c sx sy,s= .slice (some ⟨g,0,none⟩) 2 c/\p g/\w.cell? ⟨g,0,none⟩=some (.int .i64 x.k)/\w.cell? ⟨g,1,none⟩=some (.int .i64 x.n)/\w.cell? ⟨g,2,none⟩=some sx/\w.cell? ⟨g,3,none⟩=some (.int .i64 y.k)/\w.cell? ⟨g,4,none⟩=some (.int .i64 y.n)/\w.cell? ⟨g,5,none⟩=some sy/\KdP p w x sx/\KdP p w y sy
theorem KdP.sl {p:Nat->Prop} {w:World} {t:PT} {s:Value} (h:KdP p w t s):∃ a c,s= .slice a t.len c:=by
 cases t with
 | n0 k n=>obtain ⟨a,c,rfl⟩:=h;exact ⟨_,_,rfl⟩
 | n1 k n x=>obtain ⟨g,c,sx,rfl,_⟩:=h;exact ⟨_,_,rfl⟩
 | n2 k n x y=>obtain ⟨g,c,sx,sy,rfl,_⟩:=h;exact ⟨_,_,rfl⟩
theorem KdP.move {p q:Nat->Prop} {w w':World} (H:∀ g,p g->g<w.heap.size->q g/\w'.heap[g]?=w.heap[g]?):∀ {t:PT} {s:Value},KdP p w t s->KdP q w' t s
 | .n0 _ _,_,h=>h
 | .n1 _ _ _,_,⟨g,c,sx,e,hp,h1,h2,h3,h4⟩ =>
  have H2:=H g hp (lC h1)
  ⟨g,c,sx,e,H2.1,cell_at H2.2 h1,cell_at H2.2 h2,cell_at H2.2 h3,KdP.move H h4⟩
 | .n2 _ _ _ _,_,⟨g,c,sx,sy,e,hp,h1,h2,h3,h4,h5,h6,h7,h8⟩ =>
  have H2:=H g hp (lC h1)
  ⟨g,c,sx,sy,e,H2.1,cell_at H2.2 h1,cell_at H2.2 h2,cell_at H2.2 h3,cell_at H2.2 h4,cell_at H2.2 h5,cell_at H2.2 h6,KdP.move H h7,KdP.move H h8⟩
theorem KdP.kd {p:Nat->Prop} {B:Nat} {w:World} (H:∀ g,p g->B<=g):∀ {t:PT} {s:Value},KdP p w t s->KdS B w t s
 | .n0 _ _,_,h=>h
 | .n1 _ _ _,_,⟨g,c,sx,e,hp,h1,h2,h3,h4⟩=>⟨g,0,c,sx,e,H g hp,h1,h2,h3,KdP.kd H h4⟩
 | .n2 _ _ _ _,_,⟨g,c,sx,sy,e,hp,h1,h2,h3,h4,h5,h6,h7,h8⟩=>⟨g,0,c,sx,sy,e,H g hp,h1,h2,h3,h4,h5,h6,KdP.kd H h7,KdP.kd H h8⟩
theorem kdP_of {p q:Nat->Prop} {w:World} {B:Nat} {t:PT} {sl:Value} {ps:List (Int×Int×Value)} (ho:OwnPl w B sl ps) (hl:ps.length=t.len)
  (hk:∀ j k n s,ps[j]?=some (k,n,s)->k=(t.kid j).k/\n=(t.kid j).n/\KdP p w (t.kid j) s) (hq:∀ g,B<=g->q g) (hpq:∀ g,p g->q g):KdP q w t sl:=by
 have hm:∀ {x:PT} {s:Value},KdP p w x s->KdP q w x s:=KdP.move fun g h _=>⟨hpq g h,rfl⟩
 rcases ownK_open ho plC_len with ⟨rfl,h0⟩|⟨g,cap,c,e,-⟩
 ·subst h0;cases t with
  | n0 k n=>exact ⟨_,_,rfl⟩
  | n1 k n x=>simp [PT.len] at hl
  | n2 k n x y=>simp [PT.len] at hl
 ·subst e;cases t with
  | n0 k n=>rw [hl];exact ⟨_,_,rfl⟩
  | n1 k n x =>
   match ps,hl with
   | [(a,b,s)],_ =>
    obtain ⟨e1,e2,ok⟩:=hk 0 a b s rfl;obtain ⟨hB,c0,c1,c2⟩:=OwnPl.at ho (i:=0) rfl;refine ⟨g,cap,s,rfl,hq g hB,?_,?_,by simpa using c2,hm ok⟩
    ·rw [e1] at c0;simpa [PT.kid] using c0
    ·rw [e2] at c1;simpa [PT.kid] using c1
  | n2 k n x y =>
   match ps,hl with
   | [(a,b,s),(a',b',s')],_ =>
    obtain ⟨e1,e2,ok⟩:=hk 0 a b s rfl;obtain ⟨e3,e4,ok'⟩:=hk 1 a' b' s' rfl;obtain ⟨hB,c0,c1,c2⟩:=OwnPl.at ho (i:=0) rfl;obtain ⟨_,d0,d1,d2⟩:=OwnPl.at ho (i:=1) rfl;refine ⟨g,cap,s,s',rfl,hq g hB,?_,?_,by simpa using c2,?_,?_,by simpa using d2,hm ok,hm ok'⟩
    ·rw [e1] at c0;simpa [PT.kid] using c0
    ·rw [e2] at c1;simpa [PT.kid] using c1
    ·rw [e3] at d0;simpa [PT.kid] using d0
    ·rw [e4] at d1;simpa [PT.kid] using d1
def LikePost (t:PT) (w:World) (e:Ending) (w':World):Prop:=∃ (a:Option Addr) (c:Nat),e= .returned (pl t.k t.n (.slice a t.len c))/\KdP (fun g=>w.heap.size<=g) w' t (.slice a t.len c)/\Below w.heap.size w w'
structure LikI (t:PT) (w:World) (s:Value) (b3 k:Nat) (wr:World):Prop where
 le:k<=t.len
 ps:∃ sl ps,ps.length=k/\Bk wr b3 #[.int .i64 t.k, .int .i64 t.n,sl] 28/\OwnPl wr (b3+1) sl ps/\(∀ j a b x,ps[j]?=some (a,b,x)->a=(t.kid j).k/\b=(t.kid j).n/\KdP (fun g=>b3<g/\sl.ownBlock≠some g) wr (t.kid j) x)
 arg:Bk wr w.heap.size #[.int .i64 t.k, .int .i64 t.n,s] 28
 res:Bk wr (w.heap.size+1) #[.int .i64 0, .int .i64 0, .slice none 0 0] 28
 ord:w.heap.size+1<b3
 bel:Below w.heap.size w wr
theorem likI_step {t:PT} {w:World} {s:Value} {b3 k:Nat} {wr W8 w9:World} {sl:Value} {ps:List (Int×Int×Value)} {b:Option Addr} {m c g cap:Nat} (hlt:k<t.len) (hpl:ps.length=k) (b9k:Bk wr b3 #[.int .i64 t.k, .int .i64 t.n,sl] 28) (hown:OwnPl wr (b3+1) sl ps)
  (hps:∀ j a b x,ps[j]?=some (a,b,x)->a=(t.kid j).k/\b=(t.kid j).n/\KdP (fun g=>b3<g/\sl.ownBlock≠some g) wr (t.kid j) x) (harg:Bk wr w.heap.size #[.int .i64 t.k, .int .i64 t.n,s] 28) (hres:Bk wr (w.heap.size+1) #[.int .i64 0, .int .i64 0, .slice none 0 0] 28) (h9:w.heap.size+1<b3) (hb:Below w.heap.size w wr)
  (hb8:Below wr.heap.size wr W8) (hk:KdP (fun g=>wr.heap.size<=g) W8 (t.kid k) (.slice b m c)) (hn:OwnPl w9 (b3+1) (.slice (some ⟨g,0,none⟩) (ps.length+1) cap) (ps++[((t.kid k).k,(t.kid k).n, .slice b m c)])) (hg:W8.grownBy w9 sl.ownBlock) (hor:sl.ownBlock=some g\/g=W8.heap.size) :
  LikI t w s b3 (k+1) (w9.setCell ⟨b3,2,none⟩ (.slice (some ⟨g,0,none⟩) (ps.length+1) cap)):=by
 have hlo:∀ q,sl.ownBlock=some q->b3+1<=q/\q<wr.heap.size:=fun q e=>⟨oB hown q e,oT hown q e⟩;have h9l:=b9k.lt;have hs8:=hb8.size;have hne:sl.ownBlock≠some b3:=fun e=>by have:=(hlo _ e).1;omega
 have hset:∀ x,x≠b3->(w9.setCell ⟨b3,2,none⟩ (.slice (some ⟨g,0,none⟩) (ps.length+1) cap)).heap[x]?=w9.heap[x]?:=fun x hx=>Below.heap_setCell _ _ _ _ (by show _≠_;first|exact hx|exact fun e=>hx e.symm)
 refine ⟨by omega,⟨_,ps++[((t.kid k).k,(t.kid k).n, .slice b m c)],by simp [hpl],(pl_grew (b9k.keep hb8) hg hne).set 2 _,oA hn fun x e=>hset x (by have:=oB hn x e;omega),?_⟩,?_,?_,h9,?_⟩
 ·intro j a b' x hj
  rcases Nat.lt_or_ge j k with h|h
  ·rw [List.getElem?_append_left (by omega)] at hj;obtain ⟨e,e',ok⟩:=hps j a b' x hj;refine ⟨e,e',ok.move fun q hq hql=>?_⟩;have x1:(Value.slice (some ⟨g,0,none⟩) (ps.length+1) cap).ownBlock≠some q:=by
    intro e2;have e3:g=q:=by simpa [Value.ownBlock] using e2
    subst e3
    rcases hor with h1|h1
    ·exact hq.2 h1
    ·omega
   refine ⟨⟨hq.1,x1⟩,?_⟩;rw [hset q (by omega),hg.block q (by omega) (fun e=>hq.2 e.symm)];exact hb8.block q hql
  ·have hj2:j=k:=by
    have:=(List.getElem?_eq_some_iff.1 hj).1;simp at this;omega
   subst hj2;rw [List.getElem?_append_right (by omega),hpl,Nat.sub_self] at hj;simp only [List.getElem?_cons_zero,Option.some.injEq,Prod.mk.injEq] at hj;obtain ⟨rfl,rfl,rfl⟩:=hj;refine ⟨rfl,rfl,hk.move fun q hq hql=>?_⟩;have x1:(Value.slice (some ⟨g,0,none⟩) (ps.length+1) cap).ownBlock≠some q:=by
    intro e2;have e3:g=q:=by simpa [Value.ownBlock] using e2
    subst e3
    rcases hor with h1|h1
    ·have:=(hlo _ h1).2;omega
    ·omega
   refine ⟨⟨by omega,x1⟩,?_⟩;rw [hset q (by omega)];exact hg.block q hql (fun e=>by have:=(hlo _ e.symm).2;omega)
 ·have b2:=pl_grew (harg.keep hb8) hg (fun e=>by have:=(hlo _ e).1;omega);unfold Bk;rw [hset _ (by omega)];exact b2
 ·have b2:=pl_grew (hres.keep hb8) hg (fun e=>by have:=(hlo _ e).1;omega);unfold Bk;rw [hset _ (by omega)];exact b2
 ·exact ((bSz hb hb8).grown hg (by have:=hb.size;omega) (fun x e=>by have:=(hlo _ e).1;omega)).setCell (by show _<=b3;omega) _
section
variable {ops:Array Oper} {o:Oper} {a:Act} {Kk:Act->World->Prop} {Q:Exit->Act->World->Prop} {Ee:Prop}
theorem stepPl2 (w:World) (hgd:o.guard=none) (s x:Operand) (ho:o.op= .call { callee:= .builtin .append,args:=#[s,x],argTypes:=#[26,26] })
  (base:Nat) (v:Value) (l:List (Int×Int×Value)) (hs:a.eval s=v) (hown:OwnPl w base v l) (g0:Nat) (k n:Int) (ad:Option Addr) (i c:Nat) (hx:a.eval x= .slice (some ⟨g0,0,none⟩) 1 1)
  (hc:Bk w g0 #[.int .i64 k, .int .i64 n, .slice ad i c] 28) (hl:l.length<=2000000) (hbase:base<=w.heap.size)
  (h:∀ g cap w',OwnPl w' base (.slice (some ⟨g,0,none⟩) (l.length+1) cap) (l++[(k,n, .slice ad i c)])->w.grownBy w' v.ownBlock->(v.ownBlock=some g\/g=w.heap.size)->g<w'.heap.size->Kk (a.put o.dst (.slice (some ⟨g,0,none⟩) (l.length+1) cap)) w') :
  if Region.wanted o (yielded ops a.tmps)=true then Oper.wp Tryd.prog o a w Kk Q else Ee:=by
 obtain ⟨i0,hi,hz0,hz1,hz2⟩:=info_parts infoPl;refine step_append_lies w hgd s x 26 ho base 28 i0 _ 3 40 Tryd.underlying26 hi hz0 hz1 hz2 rfl (by decide) v l.length (l.flatMap plC) hs hown ⟨g0,0,none⟩ 1 1 (plC (k,n, .slice ad i c)) hx rfl (newsL hc) (onesPl _ _ _ _ _) (by omega) (by unfold maxLen;omega) (by omega) hbase w.heap.size rfl ?_;intro g cap w' h1 h2 h3 h4;refine h g cap w' ?_ h2 h3 h4
 show w'.ownsRow _ _ _ _ _ _
 rw [List.flatMap_append];simpa using h1
end
theorem l31Plan_step {t:PT} {B:Nat} {s:Value} {w:World} (hs:KdS B w t s)
  (hrec:∀ i,i<t.len->∀ (W:World) (s':Value),KdS B W (t.kid i) s'->Calls Tryd.prog 15 #[pl (t.kid i).k (t.kid i).n s'] W (LikePost (t.kid i) W)) :
  Calls Tryd.prog 15 #[pl t.k t.n s] w (LikePost t w):=by
 have HR:=(show Hid _ from hrec);have HSL:=(show Hid (KdS B w t s) from hs);obtain ⟨a,c,rfl⟩:=hs.sl;have htl:=PT.len_le t;have bA:Bk (((w.alloc (.cells #[.int .i64 t.k, .int .i64 t.n, .slice a t.len c] 28)).alloc (.cells #[.int .i64 0, .int .i64 0, .slice none 0 0] 28)).alloc (.cells #[.int .i64 t.k, .int .i64 t.n, .slice none 0 0] 28)) w.heap.size #[.int .i64 t.k, .int .i64 t.n, .slice a t.len c] 28:=((Bk.new _ _ rfl).alloc _).alloc _;have bR:Bk (((w.alloc (.cells #[.int .i64 t.k, .int .i64 t.n, .slice a t.len c] 28)).alloc (.cells #[.int .i64 0, .int .i64 0, .slice none 0 0] 28)).alloc (.cells #[.int .i64 t.k, .int .i64 t.n, .slice none 0 0] 28)) (w.heap.size+1) #[.int .i64 0, .int .i64 0, .slice none 0 0] 28:=(Bk.new _ _ (by simp)).alloc _;have bN:Bk (((w.alloc (.cells #[.int .i64 t.k, .int .i64 t.n, .slice a t.len c] 28)).alloc (.cells #[.int .i64 0, .int .i64 0, .slice none 0 0] 28)).alloc (.cells #[.int .i64 t.k, .int .i64 t.n, .slice none 0 0] 28)) (w.heap.size+2) #[.int .i64 t.k, .int .i64 t.n, .slice none 0 0] 28:=Bk.new _ _ (by simp);have hb0:Below w.heap.size w (((w.alloc (.cells #[.int .i64 t.k, .int .i64 t.n, .slice a t.len c] 28)).alloc (.cells #[.int .i64 0, .int .i64 0, .slice none 0 0] 28)).alloc (.cells #[.int .i64 t.k, .int .i64 t.n, .slice none 0 0] 28)):=bAz (bAz (bAz (Below.refl _ _) _) _) _;have bA2:Bk ((w.alloc (.cells #[.int .i64 t.k, .int .i64 t.n, .slice a t.len c] 28)).alloc (.cells #[.int .i64 0, .int .i64 0, .slice none 0 0] 28)) w.heap.size #[.int .i64 t.k, .int .i64 t.n, .slice a t.len c] 28:=(Bk.new _ _ rfl).alloc _;obtain ⟨v0,v1,v2⟩:=bA2.three';obtain ⟨x0,x1,x2⟩:=bA.three';clear hs hrec bA2;go_enter Tryd.func15,Tryd.ntmps15;go_wp2_with fail;clear v0 v1 v2 x0 x1 x2;generalize (((w.alloc (.cells #[.int .i64 t.k, .int .i64 t.n, .slice a t.len c] 28)).alloc (.cells #[.int .i64 0, .int .i64 0, .slice none 0 0] 28)).alloc (.cells #[.int .i64 t.k, .int .i64 t.n, .slice none 0 0] 28))=W0 at *
 go_loopw [4] (fun i wr=>∃ k:Nat,i= .int .i64 k/\LikI t w (.slice a t.len c) (w.heap.size+2) k wr) (fun i _=>t.len-(intOf i).toNat)
 case atStart=>exact ⟨0,rfl,Nat.zero_le _,⟨_,[],rfl,bN,oN _ _ _ _ _,fun j a b x h=>by simp at h⟩,bA,bR,by omega,hb0⟩
 case round =>
  clear bA bR bN hb0;obtain ⟨k,rfl,HI⟩:=hrel;obtain ⟨hkl,⟨sl,ps,hpl,b9k,hown,hps⟩,bA,bR,h9,hb⟩:=HI;have HP:=(show Hid _ from hps);have HO:=(show Hid (OwnPl wr (w.heap.size+2+1) sl ps) from hown);clear hown hps
  by_cases hlt2:k<t.len
  ·have ik:((k:Int)<(t.len:Int)):=by omega
   obtain ⟨g,off,sx,rfl,hgl,c0,c1,c2,hkid,b2,m2,d2,rfl⟩:=(HSL.out.keep hb).at hlt2;obtain ⟨asl,nsl,csl,esl⟩:∃ a n c,sl= .slice a n c:=by
    rcases ownK_open HO.out plC_len with ⟨h1,_⟩|⟨g1,cap1,c1',h1,_⟩
    ·exact ⟨_,_,_,h1⟩
    ·exact ⟨_,_,_,h1⟩
   subst esl;have HW:Hid (∀ V,Below wr.heap.size wr V->V.cell? ⟨w.heap.size+2,2,none⟩=some (.slice asl nsl csl)/\V.cell? ⟨w.heap.size,2,none⟩=some (.slice (some ⟨g,off,none⟩) t.len c)/\V.cell? ⟨g,off+k*3,none⟩=some (.int .i64 (t.kid k).k)/\V.cell? ⟨g,off+k*3+1,none⟩=some (.int .i64 (t.kid k).n)/\V.cell? ⟨g,off+k*3+2,none⟩=some (.slice b2 m2 d2)):=fun V hV=>⟨(b9k.keep hV).three'.2.2,(bA.keep hV).three'.2.2,cB hV c0,cB hV c1,cB hV c2⟩;have hd1:Below wr.heap.size wr wr:=Below.refl _ _;have hd:Below wr.heap.size wr wr.drew:=hd1.drew;have HK:=(show Hid _ from fun (V:World) (hV:Below wr.heap.size wr V)=>HR.out k hlt2 V _ (hkid.keep hV));have HB:=(show Hid (Bk wr (w.heap.size+2) #[.int .i64 t.k, .int .i64 t.n, .slice asl nsl csl] 28) from b9k);have HAR:=(show Hid _ from bA);have HRS:=(show Hid _ from bR);have hzr:w.heap.size+2+1<=wr.heap.size:=by have:=b9k.lt;omega
   obtain ⟨p0,p1,p2⟩:=b9k.three';obtain ⟨z0,z1,z2⟩:=bA.three';clear hkid bA bR b9k;go_wp2_with fail;clear c0 c1 c2;obtain ⟨i1,i2,i3,i4,i5⟩:=HW.out _ (Below.refl _ _);obtain ⟨j1,j2,j3,j4,j5⟩:=HW.out _ hd
   go_region_law (first
    | (go_simp;go_at_call 15;refine Calls.mono (HK.out _ hd) ?_;rintro e w7 ⟨a7,c7,rfl,kd7,hb7⟩;have hc7:Below wr.heap.size wr w7:=bSz hd hb7;have hc8:Below wr.heap.size wr (w7.alloc (.cells #[.int .i64 (t.kid k).k, .int .i64 (t.kid k).n, .slice a7 (t.kid k).len c7] 28)):=bAz hc7 _;obtain ⟨q0,q1,q2⟩:=(HB.out.keep hc7).three';obtain ⟨r0,r1,r2⟩:=(HB.out.keep hc8).three';have bn:Bk (w7.alloc (.cells #[.int .i64 (t.kid k).k, .int .i64 (t.kid k).n, .slice a7 (t.kid k).len c7] 28)) w7.heap.size #[.int .i64 (t.kid k).k, .int .i64 (t.kid k).n, .slice a7 (t.kid k).len c7] 28:=Bk.new _ _ rfl;have ho8:=oK HO.out hc8;have hz8:=Nat.le_trans hzr hc8.size;obtain ⟨l1,l2,l3,l4,l5⟩:=HW.out _ hc7;obtain ⟨m1,m2',m3,m4,m5⟩:=HW.out _ hc8)
    | (refine stepPl2 _ rfl _ _ rfl (w.heap.size+2+1) _ ps rfl ho8 _ _ _ _ _ _ rfl bn (by omega) hz8 ?_;intro g9 cap9 w9 own9 hg9 hor9 hlg;have tb9:=pl_grew (HB.out.keep hc8) hg9 (fun e=>by have:=oB ho8 _ e;omega);obtain ⟨y0,y1,y2⟩:=tb9.three';have f2:=tb9.free 2))
   all_goals
    have HN:Hid (LikI t w (.slice (some ⟨g,off,none⟩) t.len c) (w.heap.size+2) (k+1) (w9.setCell ⟨w.heap.size+2,2,none⟩ (.slice (some ⟨g9,0,none⟩) (ps.length+1) cap9))):=likI_step hlt2 hpl HB.out HO.out HP.out HAR.out HRS.out h9 hb hc8 (kd7.move fun q hq hql=>⟨Nat.le_trans hd.size hq,(bAz (Below.refl w7.heap.size w7) _).block q hql⟩) own9 hg9 hor9;have HLT:Hid (k<t.len):=hlt2;clear own9 hg9 hor9 hlg tb9 y0 y1 y2 f2 kd7 hb7 hc7 hc8 q0 q1 q2 r0 r1 r2 bn ho8 hz8 p0 p1 p2 hlt2;go_wp2_with fail;go_roundw
    case rel =>
     have h:=HN.out;rw [hpl] at h;exact ⟨k+1,by go_num,h⟩
    case measure=>have:=HLT.out;simp [intOf];omega
  ·obtain rfl:k=t.len:=by omega
   have ik:¬ ((t.len:Int)<(t.len:Int)):=by omega
   obtain ⟨p0,p1,p2⟩:=b9k.three';obtain ⟨a0',a1',a2'⟩:=bA.three';have kp:KdP (fun g=>w.heap.size+2<g) wr t sl:=kdP_of HO.out hpl HP.out (fun g h=>h) (fun g h=>h.1);obtain ⟨a5,c5,e5⟩:=kp.sl;subst e5;have f0:=bR.free 0;have q1:=bR.set 0 (.int .i64 t.k);have f1:=q1.free 1;have q2:=q1.set 1 (.int .i64 t.n);have f2:=q2.free 2;have q3:Bk (((wr.setCell ⟨w.heap.size+1,0,none⟩ (.int .i64 t.k)).setCell ⟨w.heap.size+1,1,none⟩ (.int .i64 t.n)).setCell ⟨w.heap.size+1,2,none⟩ (.slice a5 t.len c5)) (w.heap.size+1) #[.int .i64 t.k, .int .i64 t.n, .slice a5 t.len c5] 28:=q2.set 2 _;obtain ⟨y0,y1,y2⟩:=q3.three';obtain ⟨r0,r1,r2⟩:=bR.three';have hset:∀ x,x≠w.heap.size+1->(((wr.setCell ⟨w.heap.size+1,0,none⟩ (.int .i64 t.k)).setCell ⟨w.heap.size+1,1,none⟩ (.int .i64 t.n)).setCell ⟨w.heap.size+1,2,none⟩ (.slice a5 t.len c5)).heap[x]?=wr.heap[x]?:=fun x hx=>((Below.heap_setCell _ _ _ _ hx).trans (Below.heap_setCell _ _ _ _ hx)).trans (Below.heap_setCell _ _ _ _ hx);have HKP:=(show Hid _ from kp.move (q:=fun g=>w.heap.size<=g) fun x hx _=>⟨by omega,hset x (by omega)⟩);have HBF:Hid (Below w.heap.size w (((wr.setCell ⟨w.heap.size+1,0,none⟩ (.int .i64 t.k)).setCell ⟨w.heap.size+1,1,none⟩ (.int .i64 t.n)).setCell ⟨w.heap.size+1,2,none⟩ (.slice a5 t.len c5))):=((hb.setCell (by simp) _).setCell (by simp) _).setCell (by simp) _;clear kp q1 q2 q3 hset HO HP b9k bA bR hb;go_wp2_with fail;refine bodyPost_ret (v:=pl t.k t.n (.slice a5 t.len c5)) (by simp [results,Tryd.results15,go_sem,y0,y1,y2];try rfl) rfl ?_;exact ⟨a5,c5,rfl,HKP.out,HBF.out⟩
theorem l31Plan_any:∀ (t:PT) {B:Nat} {s:Value} {w:World},KdS B w t s->Calls Tryd.prog 15 #[pl t.k t.n s] w (LikePost t w)
 | .n0 _ _,_,_,_,hs=>l31Plan_step hs fun i hi=>by simp [PT.len] at hi
 | .n1 _ _ x,_,_,_,hs=>l31Plan_step hs fun i _ W s' h=>l31Plan_any x h
 | .n2 _ _ x y,_,_,_,hs=>l31Plan_step hs fun i _ W s' h=>by
  cases i with
  | zero=>exact l31Plan_any x h
  | succ i=>exact l31Plan_any y h
attribute [local go_sem ↓] Go.wp_at_zero Go.wp_at_succ
theorem KdP.keep {p:Nat->Prop} {w w':World} {t:PT} {s:Value} (h:KdP p w t s) (hb:Below w.heap.size w w'):KdP p w' t s :=
 h.move fun g hg hl=>⟨hg,hb.block g hl⟩
end Go.Proofs.YtbdpcngcbnoioaaDoor
