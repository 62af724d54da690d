import Derived.Test.YtbdpcngcbnoioaaGreatDoorAn2
set_option maxRecDepth 100000
set_option maxHeartbeats 16000000
namespace Go.Proofs.YtbdpcngcbnoioaaGreatDoor
open Go.RowKit Go.Shelf
namespace An
theorem okPlan_bad (ea:Addr) {T F:Nat} {t:PT} {B:Nat} {s:Value} {w:World} {deep:Int} (H:KindIs t.k T F) (hn : -9223372036854775808<=t.n/\t.n<=9223372036854775807) (hpw:Pow w) (hs:KdS B w t s) (hg:w.cell? ⟨0,0,none⟩=some (erV ea))
  (hbad:4<deep\/(¬ 4<deep/\¬ (t.len:Int)=kidN t.k)\/(¬ 4<deep/\(t.len:Int)=kidN t.k/\t.n<numLo t.k)\/(¬ 4<deep/\(t.len:Int)=kidN t.k/\¬ t.n<numLo t.k/\numHi t.k<t.n)) :
  Calls Tryz.prog 138 #[pl t.k t.n s, .int .i64 deep] w fun e w'=>e= .returned (.tuple #[okZ,erV ea])/\Below w.heap.size w w':=by
 obtain ⟨a,c,rfl⟩:=hs.sl;have HPW:=(show Hid (Pow w) from hpw);clear hpw;have HS:=(show Hid (ShapeOf t.k F) from H.shape);have HK:=(show Hid _ from H.kind);have hme:=H.meth;have hen:=H.enters;have bP:Bk ((w.alloc (.cells #[.int .i64 t.k, .int .i64 t.n, .slice a t.len c] 25)).alloc (.cells #[.nilIface, .slice none 0 0] 161)) w.heap.size #[.int .i64 t.k, .int .i64 t.n, .slice a t.len c] 25:=(Bk.new _ _ rfl).alloc _;have bR:Bk ((w.alloc (.cells #[.int .i64 t.k, .int .i64 t.n, .slice a t.len c] 25)).alloc (.cells #[.nilIface, .slice none 0 0] 161)) (w.heap.size+1) #[.nilIface, .slice none 0 0] 161:=Bk.new _ _ (by simp);have hb0:Below w.heap.size w ((w.alloc (.cells #[.int .i64 t.k, .int .i64 t.n, .slice a t.len c] 25)).alloc (.cells #[.nilIface, .slice none 0 0] 161)):=bAz (bAz (Below.refl _ _) _) _;clear hs H;obtain ⟨x0,x1,x2⟩:=bP.three';go_enter Tryz.func138,Tryz.ntmps138;go_wp2_with fail;generalize ((w.alloc (.cells #[.int .i64 t.k, .int .i64 t.n, .slice a t.len c] 25)).alloc (.cells #[.nilIface, .slice none 0 0] 161))=W0 at *;refine (HK.out t.n _ _).mono ?_;rintro e w1 ⟨rfl,hb1⟩;have bP1:=bP.keep hb1;have bR1:=bR.keep hb1;have hbw1:=bSz hb0 hb1;clear x0 x1 x2 bP bR hb0 hb1;go_wp2_with fail;refine (HS.out t.n _ hn (pow_keep HPW.out hbw1 rfl)).mono ?_;rintro e w2 ⟨⟨sx,rfl⟩,hb2⟩;have bS:Bk (w2.alloc (.cells #[.string sx, .int .i64 (kidN t.k), .int .i64 (numLo t.k), .int .i64 (numHi t.k)] 217)) w2.heap.size #[.string sx, .int .i64 (kidN t.k), .int .i64 (numLo t.k), .int .i64 (numHi t.k)] 217:=Bk.new _ _ rfl;have hbS:Below w2.heap.size w2 (w2.alloc (.cells #[.string sx, .int .i64 (kidN t.k), .int .i64 (numLo t.k), .int .i64 (numHi t.k)] 217)):=bAz (Below.refl _ _) _;have bP2:=(bP1.keep hb2).keep hbS;have bR2:=(bR1.keep hb2).keep hbS;have hbw2:=bSz (bSz hbw1 hb2) hbS;have hg2:=cB hbw2 hg;clear hb2 hbS bP1 bR1 hbw1 hme hen
 go_upto_region 5 with fail
 generalize (w2.alloc (.cells #[.string sx, .int .i64 (kidN t.k), .int .i64 (numLo t.k), .int .i64 (numHi t.k)] 217))=W3 at *;generalize w2.heap.size=sb at *;obtain ⟨x0,x1,x2⟩:=bP2.three';obtain ⟨s0,s1,s2,s3⟩:=bS.four';obtain ⟨r0,r1,f0,f1⟩:=bR2.two;have bo:=(bR2.set01 .nilIface (.slice none 0 0)).drew;have hbo:Below w.heap.size w ((W3.setCell ⟨w.heap.size+1,0,none⟩ .nilIface).setCell ⟨w.heap.size+1,1,none⟩ (.slice none 0 0)).drew:=((hbw2.setCell (by simp) _).setCell (by simp) _).drew;obtain ⟨y0,y1,_,_⟩:=bo.two;have hy0:W3.drew.cell? ⟨0,0,none⟩=some (erV ea):=hg2;clear bP2 bS bR2 bo HS HK
 rcases hbad with h1|⟨h1,h2⟩|⟨h1,h2,h3⟩|⟨h1,h2,h3,h4⟩
 all_goals
  go_wp2_with fail
  go_region
  go_wp2_with fail;refine bodyPost_ret (v:= .tuple #[okZ,erV ea]) (by simp [results,Tryz.results138,go_sem,y0,y1];try rfl) rfl ?_;exact ⟨rfl,hbo⟩
end An
end Go.Proofs.YtbdpcngcbnoioaaGreatDoor
namespace Go.Proofs.YtbdpcngcbnoioaaGreatDoor
open Go.RowKit Go.Shelf
namespace An
theorem kind_of {k:Int} (h:inB k 1 6=true):∃ F,KindIs k (kT k) F:=by
 have h2:1<=k/\k<=6:=by simpa [inB] using h
 have:k=1\/k=2\/k=3\/k=4\/k=5\/k=6:=by omega
 rcases this with rfl|rfl|rfl|rfl|rfl|rfl
 ·exact ⟨_,kind_in⟩
 ·exact ⟨_,kind_each⟩
 ·exact ⟨_,kind_both⟩
 ·exact ⟨_,kind_less⟩
 ·exact ⟨_,kind_join⟩
 ·exact ⟨_,kind_sum⟩
abbrev kiV (t:PT):Value:= .iface (kT t.k) (.int .i64 t.n)
def OkS (p:Nat->Prop) (w:World):PT->Value->Prop
 | .n0 _ _,s=>∃ a c,s= .slice a 0 c
 | .n1 _ _ x,s=>∃ g c sx,s= .slice (some ⟨g,0,none⟩) 1 c/\p g/\w.cell? ⟨g,0,none⟩=some (kiV x)/\w.cell? ⟨g,1,none⟩=some sx/\OkS p w x sx
 | .n2 _ _ x y,s=>∃ g c sx sy,s= .slice (some ⟨g,0,none⟩) 2 c/\p g/\w.cell? ⟨g,0,none⟩=some (kiV x)/\w.cell? ⟨g,1,none⟩=some sx/\w.cell? ⟨g,2,none⟩=some (kiV y)/\w.cell? ⟨g,3,none⟩=some sy/\OkS p w x sx/\OkS p w y sy
 | .nm _ _ m,s=>∃ a c,s= .slice a (m+3) c
theorem OkS.sl {p:Nat->Prop} {w:World} {t:PT} {s:Value} (h:OkS p w t s):∃ a c,s= .slice a t.len c:=by
 cases t with
 | n0 k n=>obtain ⟨a,c,rfl⟩:=h;exact ⟨_,_,rfl⟩
 | n1 k n x=>obtain ⟨g,c,sx,rfl,_⟩:=h;exact ⟨_,_,rfl⟩
 | n2 k n x y=>obtain ⟨g,c,sx,sy,rfl,_⟩:=h;exact ⟨_,_,rfl⟩
 | nm k n m=>obtain ⟨a,c,rfl⟩:=h;exact ⟨_,_,rfl⟩
theorem OkS.move {p q:Nat->Prop} {w w':World} (H:∀ g,p g->g<w.heap.size->q g/\w'.heap[g]?=w.heap[g]?):∀ {t:PT} {s:Value},OkS p w t s->OkS q w' t s
 | .n0 _ _,_,h=>h
 | .nm _ _ _,_,h=>h
 | .n1 _ _ _,_,⟨g,c,sx,e,hp,h1,h2,h3⟩=>⟨g,c,sx,e,(H g hp (lC h1)).1,cell_at (H g hp (lC h1)).2 h1,cell_at (H g hp (lC h1)).2 h2,OkS.move H h3⟩
 | .n2 _ _ _ _,_,⟨g,c,sx,sy,e,hp,h1,h2,h3,h4,h5,h6⟩=>⟨g,c,sx,sy,e,(H g hp (lC h1)).1,cell_at (H g hp (lC h1)).2 h1,cell_at (H g hp (lC h1)).2 h2,cell_at (H g hp (lC h1)).2 h3,cell_at (H g hp (lC h1)).2 h4,OkS.move H h5,OkS.move H h6⟩
theorem okS_of {p q:Nat->Prop} {w:World} {B:Nat} {t:PT} {sl:Value} {ps:List (Value×Value)} (ho:w.ownsRow B 161 2 sl t.len (psC ps)) (hl:ps.length=t.len)
  (hk:∀ j a s,ps[j]?=some (a,s)->a=kiV (t.kid j)/\OkS p w (t.kid j) s) (hq:∀ g,B<=g->q g) (hpq:∀ g,p g->q g):OkS q w t sl:=by
 have hm:∀ {x:PT} {s:Value},OkS p w x s->OkS q w x s:=OkS.move fun g h _=>⟨hpq g h,rfl⟩;have hh:=ho;obtain ⟨_,⟨rfl,h0⟩|⟨g,cap,cur,rfl,hg,_⟩⟩:=ho
 ·cases t with
  | n0 k n=>exact ⟨_,_,rfl⟩
  | n1 k n x=>simp [PT.len] at h0
  | n2 k n x y=>simp [PT.len] at h0
  | nm k n m=>simp [PT.len] at h0
 ·have ha:=fun i (hi:i<t.len*2)=>hh.cellAt i hi;cases t with
  | n0 k n=>exact ⟨_,_,rfl⟩
  | n1 k n x =>
   obtain ⟨⟨a,s⟩,rfl⟩:∃ z,ps=[z]:=by
    match ps,hl with
    | [z],_=>exact ⟨z,rfl⟩
   obtain ⟨e,ok⟩:=hk 0 a s rfl;refine ⟨g,cap,s,rfl,hq g hg,?_,?_,hm ok⟩
   ·rw [ha 0 (by simp [PT.len])];simp [e,PT.kid]
   ·rw [ha 1 (by simp [PT.len])];simp
  | n2 k n x y =>
   obtain ⟨⟨a,s⟩,⟨b,s'⟩,rfl⟩:∃ z z',ps=[z,z']:=by
    match ps,hl with
    | [z,z'],_=>exact ⟨z,z',rfl⟩
   obtain ⟨e,ok⟩:=hk 0 a s rfl;obtain ⟨e',ok'⟩:=hk 1 b s' rfl;refine ⟨g,cap,s,s',rfl,hq g hg,?_,?_,?_,?_,hm ok,hm ok'⟩
   ·rw [ha 0 (by simp [PT.len])];simp [e,PT.kid]
   ·rw [ha 1 (by simp [PT.len])];simp
   ·rw [ha 2 (by simp [PT.len])];simp [e',PT.kid]
   ·rw [ha 3 (by simp [PT.len])];simp
  | nm k n m=>exact ⟨_,_,rfl⟩
end An
end Go.Proofs.YtbdpcngcbnoioaaGreatDoor
set_option maxRecDepth 100000
set_option maxHeartbeats 16000000
namespace Go.Proofs.YtbdpcngcbnoioaaGreatDoor
open Go.RowKit Go.Shelf
namespace An
def OkPost (ea:Addr) (t:PT) (d:Nat) (w:World) (e:Ending) (w':World):Prop :=
 ((pokB t d=true/\∃ a n c,e= .returned (.tuple #[.agg #[kiV t, .slice a n c], .nilIface])/\OkS (fun g=>w.heap.size<=g) w' t (.slice a n c))\/(pokB t d=false/\e= .returned (.tuple #[okZ,erV ea])))/\Below w.heap.size w w'
structure OkI (ea:Addr) (t:PT) (d:Nat) (w:World) (b9 k:Nat) (s:Value) (wr:World):Prop where
 le:k<=t.len
 ps:∃ sl ps,ps.length=k/\Bk wr b9 #[kiV t,sl] 161/\wr.ownsRow (b9+1) 161 2 sl k (psC ps)/\(∀ j a x,ps[j]?=some (a,x)->a=kiV (t.kid j)/\OkS (fun g=>b9<g/\sl.ownBlock≠some g) wr (t.kid j) x)
 pok:∀ j,j<k->pokB (t.kid j) d=true
 box:Bk wr (w.heap.size+1) #[.nilIface, .slice none 0 0] 161
 nine:w.heap.size+1<b9
 bel:Below w.heap.size w wr
theorem okI_step {ea:Addr} {t:PT} {d:Nat} {w:World} {b9 k:Nat} {s:Value} {wr W8 w9:World} {sl:Value} {ps:List (Value×Value)} {b:Option Addr} {m c g cap:Nat} (hlt:k<t.len) (hpl:ps.length=k) (b9k:Bk wr b9 #[kiV t,sl] 161) (hown:wr.ownsRow (b9+1) 161 2 sl k (psC ps))
  (hps:∀ j a x,ps[j]?=some (a,x)->a=kiV (t.kid j)/\OkS (fun g=>b9<g/\sl.ownBlock≠some g) wr (t.kid j) x) (hpok:∀ j,j<k->pokB (t.kid j) d=true) (box:Bk wr (w.heap.size+1) #[.nilIface, .slice none 0 0] 161) (h9:w.heap.size+1<b9) (hb:Below w.heap.size w wr)
  (hb8:Below wr.heap.size wr W8) (hk:OkS (fun g=>wr.heap.size<=g) W8 (t.kid k) (.slice b m c)) (hp:pokB (t.kid k) d=true) (hn:w9.ownsRow (b9+1) 161 2 (.slice (some ⟨g,0,none⟩) (k+1) cap) (k+1) (psC (ps++[(kiV (t.kid k), .slice b m c)]))) (hg:W8.grownBy w9 sl.ownBlock) (hor:sl.ownBlock=some g\/g=W8.heap.size) :
  OkI ea t d w b9 (k+1) s (w9.setCell ⟨b9,1,none⟩ (.slice (some ⟨g,0,none⟩) (k+1) cap)):=by
 have hlo:=hown.lt;have h9l:=b9k.lt;have hs8:=hb8.size;have hne:sl.ownBlock≠some b9:=fun e=>by have:=(hlo _ e).1;omega
 have hset:∀ x,x≠b9->(w9.setCell ⟨b9,1,none⟩ (.slice (some ⟨g,0,none⟩) (k+1) cap)).heap[x]?=w9.heap[x]?:=fun x hx=>Below.heap_setCell _ _ _ _ (by show _≠_;first|exact hx|exact fun e=>hx e.symm)
 refine ⟨by omega,⟨_,ps++[(kiV (t.kid k), .slice b m c)],by simp [hpl],(pl_grew (b9k.keep hb8) hg hne).set 1 _,pl_own_move hn fun x hx _=>hset x (by omega),?_⟩,?_,?_,h9,?_⟩
 ·intro j a x hj
  rcases Nat.lt_or_ge j k with h|h
  ·rw [List.getElem?_append_left (by omega)] at hj;obtain ⟨e,ok⟩:=hps j a x hj;refine ⟨e,ok.move fun q hq hql=>?_⟩;have x1:(Value.slice (some ⟨g,0,none⟩) (k+1) cap).ownBlock≠some q:=by
    intro e2;have e3:g=q:=by simpa [Value.ownBlock] using e2
    subst e3
    rcases hor with h1|h1
    ·exact hq.2 h1
    ·omega
   refine ⟨⟨hq.1,x1⟩,?_⟩;rw [hset q (by omega),hg.block q (by omega) (fun e=>hq.2 e.symm)];exact hb8.block q hql
  ·have hj2:j=k:=by
    have:=(List.getElem?_eq_some_iff.1 hj).1;simp at this;omega
   subst hj2;rw [List.getElem?_append_right (by omega),hpl,Nat.sub_self] at hj;simp only [List.getElem?_cons_zero,Option.some.injEq,Prod.mk.injEq] at hj;obtain ⟨rfl,rfl⟩:=hj;refine ⟨rfl,hk.move fun q hq hql=>?_⟩;have x1:(Value.slice (some ⟨g,0,none⟩) (j+1) cap).ownBlock≠some q:=by
    intro e2;have e3:g=q:=by simpa [Value.ownBlock] using e2
    subst e3
    rcases hor with h1|h1
    ·have:=(hlo _ h1).2;omega
    ·omega
   refine ⟨⟨by omega,x1⟩,?_⟩;rw [hset q (by omega)];exact hg.block q hql (fun e=>by have:=(hlo _ e.symm).2;omega)
 ·intro j hj
  rcases Nat.lt_or_ge j k with h|h
  ·exact hpok j h
  ·obtain rfl:j=k:=by omega
   exact hp
 ·have b2:=pl_grew (box.keep hb8) hg (fun e=>by have:=(hlo _ e).1;omega);unfold Bk;rw [hset _ (by omega)];exact b2
 ·exact ((bSz hb hb8).grown hg (by have:=hb.size;omega) (fun x e=>by have:=(hlo _ e).1;omega)).setCell (by show _<=b9;omega) _
theorem okPlan_good (ea:Addr) {F:Nat} {t:PT} {B d:Nat} {s:Value} {w:World} {deep:Int} (H:KindIs t.k (kT t.k) F) (hn : -9223372036854775808<=t.n/\t.n<=9223372036854775807) (hpw:Pow w) (hs:KdS B w t s) (hg:w.cell? ⟨0,0,none⟩=some (erV ea))
  (hh:hereB t=true) (h0:1<=deep) (h4:deep<=4)
  (hrec:∀ i,i<t.len->∀ (W:World) (s':Value),KdS B W (t.kid i) s'->W.cell? ⟨0,0,none⟩=some (erV ea)->Pow W->Calls Tryz.prog 138 #[pl (t.kid i).k (t.kid i).n s', .int .i64 (deep+1)] W (OkPost ea (t.kid i) d W)) :
  Calls Tryz.prog 138 #[pl t.k t.n s, .int .i64 deep] w (OkPost ea t (d+1) w):=by
 have HR:=(show Hid _ from hrec);have HH:=(show Hid _ from hh);have HSL:=(show Hid (KdS B w t s) from hs);have HPW:=(show Hid (Pow w) from hpw);have HLE:=(show Hid (t.len<=2) from here_len hh);clear hpw;have hh2:((t.len:Int)=kidN t.k)/\¬ t.n<numLo t.k/\¬ numHi t.k<t.n:=by
  simp only [hereB,inB,Bool.and_eq_true,decide_eq_true_eq] at hh;exact ⟨hh.1.2,by omega,by omega⟩
 obtain ⟨h1,h2,h3⟩:=hh2;have h5:¬ 4<deep:=by omega
 obtain ⟨a,c,rfl⟩:=hs.sl;have HS:=(show Hid (ShapeOf t.k F) from H.shape);have HK:=(show Hid _ from H.kind);have hme:=H.meth;have hen:=H.enters;have bP:Bk ((w.alloc (.cells #[.int .i64 t.k, .int .i64 t.n, .slice a t.len c] 25)).alloc (.cells #[.nilIface, .slice none 0 0] 161)) w.heap.size #[.int .i64 t.k, .int .i64 t.n, .slice a t.len c] 25:=(Bk.new _ _ rfl).alloc _;have bR:Bk ((w.alloc (.cells #[.int .i64 t.k, .int .i64 t.n, .slice a t.len c] 25)).alloc (.cells #[.nilIface, .slice none 0 0] 161)) (w.heap.size+1) #[.nilIface, .slice none 0 0] 161:=Bk.new _ _ (by simp);have hb0:Below w.heap.size w ((w.alloc (.cells #[.int .i64 t.k, .int .i64 t.n, .slice a t.len c] 25)).alloc (.cells #[.nilIface, .slice none 0 0] 161)):=bAz (bAz (Below.refl _ _) _) _;clear hs H hrec hh;obtain ⟨x0,x1,x2⟩:=bP.three';go_enter Tryz.func138,Tryz.ntmps138;go_wp2_with fail;generalize ((w.alloc (.cells #[.int .i64 t.k, .int .i64 t.n, .slice a t.len c] 25)).alloc (.cells #[.nilIface, .slice none 0 0] 161))=W0 at *;refine (HK.out t.n _ _).mono ?_;rintro e w1 ⟨rfl,hb1⟩;have bP1:=bP.keep hb1;have bR1:=bR.keep hb1;have hbw1:=bSz hb0 hb1;clear x0 x1 x2 bP bR hb0 hb1;go_wp2_with fail;refine (HS.out t.n _ hn (pow_keep HPW.out hbw1 rfl)).mono ?_;rintro e w2 ⟨⟨sx,rfl⟩,hb2⟩;have bS:Bk (w2.alloc (.cells #[.string sx, .int .i64 (kidN t.k), .int .i64 (numLo t.k), .int .i64 (numHi t.k)] 217)) w2.heap.size #[.string sx, .int .i64 (kidN t.k), .int .i64 (numLo t.k), .int .i64 (numHi t.k)] 217:=Bk.new _ _ rfl;have hbS:Below w2.heap.size w2 (w2.alloc (.cells #[.string sx, .int .i64 (kidN t.k), .int .i64 (numLo t.k), .int .i64 (numHi t.k)] 217)):=bAz (Below.refl _ _) _;have bP2:=(bP1.keep hb2).keep hbS;have bR2:=(bR1.keep hb2).keep hbS;have hbw2:=bSz (bSz hbw1 hb2) hbS;clear hb2 hbS bP1 bR1 hbw1 hme hen
 go_upto_region 5 with fail
 generalize (w2.alloc (.cells #[.string sx, .int .i64 (kidN t.k), .int .i64 (numLo t.k), .int .i64 (numHi t.k)] 217))=W3 at *;generalize w2.heap.size=sb at *;obtain ⟨x0,x1,x2⟩:=bP2.three';obtain ⟨s0,s1,s2,s3⟩:=bS.four';have bN:Bk (W3.alloc (.cells #[kiV t, .slice none 0 0] 161)) W3.heap.size #[kiV t, .slice none 0 0] 161:=Bk.new _ _ rfl;have bP3:=bP2.alloc (.cells #[kiV t, .slice none 0 0] 161);obtain ⟨z0,z1,z2⟩:=bP3.three';have bR3:=bR2.alloc (.cells #[kiV t, .slice none 0 0] 161);have hbw3:=bAz hbw2 (.cells #[kiV t, .slice none 0 0] 161);have hlt:=bR2.lt;clear bP2 bS bR2 HS HK bP3;go_wp2_with fail;generalize (W3.alloc (.cells #[kiV t, .slice none 0 0] 161))=W4 at *;generalize W3.heap.size=b9 at *;clear x0 x1 x2 z0 z1 z2 s0 s1 s2 s3
 go_loopw [56] (fun i wr=>∃ k:Nat,i= .int .i64 k/\OkI ea t d w b9 k (.slice a t.len c) wr) (fun i _=>t.len-(intOf i).toNat)
 case atStart=>exact ⟨0,rfl,Nat.zero_le _,⟨_,[],rfl,bN,World.ownsRow_nil _ _ _ _,fun j a x h=>by simp at h⟩,fun j hj=>absurd hj (by omega),bR3,hlt,hbw3⟩
 case round =>
  obtain ⟨k,rfl,HI⟩:=hrel;obtain ⟨hkl,⟨sl,ps,hpl,b9k,hown,hps⟩,hpok,bR4,h9,hb⟩:=HI;have HP:=(show Hid _ from hps);have HO:=(show Hid (wr.ownsRow (b9+1) 161 2 sl k (psC ps)) from hown);have HPO:=(show Hid _ from hpok);clear hown hps hpok bN bR3 hbw3
  by_cases hlt2:k<t.len
  ·have ik:((k:Int)<(t.len:Int)):=by omega
   obtain ⟨g,off,sx,rfl,hgl,c0,c1,c2,hkid,b2,m2,d2,rfl⟩:=(HSL.out.keep hb).at HLE.out hlt2;have bx:=Bk.new (w:=wr) #[.int .i64 (t.kid k).k, .int .i64 (t.kid k).n, .slice b2 m2 d2] 25 rfl;have hbx:Below wr.heap.size wr (wr.alloc (.cells #[.int .i64 (t.kid k).k, .int .i64 (t.kid k).n, .slice b2 m2 d2] 25)):=bAz (Below.refl _ _) _;have hk5:=hkid.keep hbx;have hg5:=cB (bSz hb hbx) hg;have HC5:=HR.out k hlt2 _ _ hk5 hg5 (pow_keep HPW.out (bSz hb hbx) rfl);have HC6:=(show Hid _ from HC5);have hdeep:¬ (9223372036854775807:Int)<deep+1:=by omega
   obtain ⟨q0,q1,q2⟩:=bx.three';have hbw5:=bSz hb hbx;clear HC5 hk5 hkid HSL;go_wp2_with fail;refine Calls.mono HC6.out ?_;rintro e w7 ⟨hor,hb7⟩;have hb70:Below wr.heap.size wr w7:=bSz hbx hb7;have hbw7:=bSz hbw5 hb7;have hsz:(wr.alloc (.cells #[.int .i64 (t.kid k).k, .int .i64 (t.kid k).n, .slice b2 m2 d2] 25)).heap.size=wr.heap.size+1:=by simp
   rw [hsz] at hor;clear HC6 q0 q1 q2 hg5 bx hbx hbw5 hb7 c0 c1 c2 hsz
   rcases hor with ⟨hp,a3,n3,c3,rfl,hok⟩|⟨hp,rfl⟩
   ·have H8:Hid (Below wr.heap.size wr ((w7.alloc (.cells #[kiV (t.kid k), .slice a3 n3 c3] 161)).alloc (.cells #[kiV (t.kid k), .slice a3 n3 c3] 161))):=bAz (bAz hb70 _) _;have b12:=(Bk.new (w:=w7) #[kiV (t.kid k), .slice a3 n3 c3] 161 rfl);have b9a:=b9k.keep (bAz hb70 (.cells #[kiV (t.kid k), .slice a3 n3 c3] 161));have b9b:=b9k.keep H8.out;have bnew:Bk ((w7.alloc (.cells #[kiV (t.kid k), .slice a3 n3 c3] 161)).alloc (.cells #[kiV (t.kid k), .slice a3 n3 c3] 161)) (w7.heap.size+1) #[kiV (t.kid k), .slice a3 n3 c3] 161:=Bk.new _ _ (by simp);have hown8:=pl_own_move HO.out fun x _ hx=>H8.out.block x hx;have hok8:OkS (fun g=>wr.heap.size<=g) ((w7.alloc (.cells #[kiV (t.kid k), .slice a3 n3 c3] 161)).alloc (.cells #[kiV (t.kid k), .slice a3 n3 c3] 161)) (t.kid k) (.slice a3 n3 c3):=hok.move fun x hx hl=>⟨by omega,((bAz (bAz (Below.refl w7.heap.size w7) (.cells #[kiV (t.kid k), .slice a3 n3 c3] 161)) (.cells #[kiV (t.kid k), .slice a3 n3 c3] 161))).block x hl⟩;have HK8:=(show Hid _ from hok8);have hs7:=hb70.size;have h9l:=b9k.lt;have hnb:sl.ownBlock≠some b9:=fun e=>by have:=(HO.out.lt _ e).1;omega
    have HNB:=(show Hid _ from hnb);obtain ⟨p0,p1,_,_⟩:=b12.two;obtain ⟨q0,q1,_,_⟩:=b9a.two;have htl:=HLE.out;have hpl2:=hpl.symm;subst hpl2;have HW8:=(show Hid _ from hown8);clear hok8 hok hnb hown8
    go_wp2_with (at_builtin;go_must (refine appO _ rfl _ _ rfl (b9+1) _ ps rfl HW8.out _ _ _ _ _ _ rfl bnew (by omega) (by simp;omega) ?_);intro g9 cap9 w9 own9 hgrow hor9 hlg;have b99:=pl_grew b9b hgrow HNB.out;obtain ⟨y0,y1,f0,f1⟩:=b99.two)
    refine ⟨⟨ps.length+1,by go_num,okI_step hlt2 rfl b9k HO.out HP.out HPO.out bR4 h9 hb H8.out HK8.out hp own9 hgrow hor9⟩,?_⟩;simp [intOf];omega
   ·have bo:=((bR4.keep hb70).alloc (.cells #[.nilIface, .slice none 0 0] 161)).set01 .nilIface (.slice none 0 0);have br:=((bR4.keep hb70).alloc (.cells #[.nilIface, .slice none 0 0] 161));obtain ⟨r0,r1,f0,f1⟩:=br.two;obtain ⟨y0,y1,_,_⟩:=bo.two;have HB:Hid (Below w.heap.size w (((w7.alloc (.cells #[.nilIface, .slice none 0 0] 161)).setCell ⟨w.heap.size+1,0,none⟩ .nilIface).setCell ⟨w.heap.size+1,1,none⟩ (.slice none 0 0))):=(((bAz hbw7 _).setCell (by simp) _).setCell (by simp) _);have HX:Hid (pokB t (d+1)=false):=pok_kid hlt2 hp;clear bo br hbw7 hb70 b9k bR4;go_wp2_with fail;refine bodyPost_ret (v:= .tuple #[okZ,erV ea]) (by simp [results,Tryz.results138,go_sem,y0,y1];try rfl) rfl ?_;exact ⟨.inr ⟨HX.out,rfl⟩,HB.out⟩
  ·obtain rfl:k=t.len:=by omega
   have ik:¬ ((t.len:Int)<(t.len:Int)):=by omega
   obtain ⟨q0,q1,_,_⟩:=b9k.two;obtain ⟨r0,r1,f0,f1⟩:=bR4.two;have bo:=bR4.set01 (kiV t) sl;obtain ⟨y0,y1,_,_⟩:=bo.two;have HB:Hid (Below w.heap.size w ((wr.setCell ⟨w.heap.size+1,0,none⟩ (kiV t)).setCell ⟨w.heap.size+1,1,none⟩ sl)):=((hb.setCell (by simp) _).setCell (by simp) _);have hset:∀ x,x≠w.heap.size+1->((wr.setCell ⟨w.heap.size+1,0,none⟩ (kiV t)).setCell ⟨w.heap.size+1,1,none⟩ sl).heap[x]?=wr.heap[x]?:=fun x hx=>(Below.heap_setCell _ _ _ _ hx).trans (Below.heap_setCell _ _ _ _ hx);have hok:OkS (fun g=>w.heap.size<=g) ((wr.setCell ⟨w.heap.size+1,0,none⟩ (kiV t)).setCell ⟨w.heap.size+1,1,none⟩ sl) t sl:=(okS_of (q:=fun g=>b9<g) HO.out hpl HP.out (fun g h=>h) (fun g h=>h.1)).move fun x hx _=>⟨by omega,hset x (by omega)⟩;obtain ⟨a5,c5,e5⟩:=hok.sl;subst e5;have HX:Hid (pokB t (d+1)=true):=pok_yes HH.out HPO.out;have HOK:=(show Hid _ from hok);clear bo hset hok HO HP HPO b9k bR4 hb;go_wp2_with fail;refine bodyPost_ret (v:= .tuple #[.agg #[kiV t, .slice a5 t.len c5], .nilIface]) (by simp [results,Tryz.results138,go_sem,y0,y1];try rfl) rfl ?_;exact ⟨.inl ⟨HX.out,_,_,_,rfl,HOK.out⟩,HB.out⟩
end An
end Go.Proofs.YtbdpcngcbnoioaaGreatDoor
