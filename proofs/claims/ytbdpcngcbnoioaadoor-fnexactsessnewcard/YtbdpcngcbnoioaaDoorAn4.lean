import Derived.Test.YtbdpcngcbnoioaaDoorAn2
set_option maxRecDepth 100000
set_option maxHeartbeats 16000000
namespace Go.Proofs.YtbdpcngcbnoioaaDoor
open Go.RowKit Go.Shelf
namespace An
theorem okPlan_bad (ea:Addr) {T F:Nat} {t:PT} {B:Nat} {s:Value} {w:World} {deep:Int} (H:KindIs t.k T F) (hn : -9223372036854775808<=t.n/\t.n<=9223372036854775807) (hpw:Pow w) (hs:KdS B w t s) (hg:w.cell? ⟨0,0,none⟩=some (erV ea))
  (hbad:4<deep\/(¬ 4<deep/\¬ (t.len:Int)=kidN t.k)\/(¬ 4<deep/\(t.len:Int)=kidN t.k/\t.n<numLo t.k)\/(¬ 4<deep/\(t.len:Int)=kidN t.k/\¬ t.n<numLo t.k/\numHi t.k<t.n)) :
  Calls Tryd.prog 32 #[pl t.k t.n s, .int .i64 deep] w fun e w'=>e= .returned (.tuple #[okZ,erV ea])/\Below w.heap.size w w':=by
 obtain ⟨a,c,rfl⟩:=hs.sl;have HPW:=(show Hid (Pow w) from hpw);clear hpw;have HS:=(show Hid (ShapeOf t.k F) from H.shape);have HK:=(show Hid _ from H.kind);have hme:=H.meth;have hen:=H.enters;have bP:Bk ((w.alloc (.cells #[.int .i64 t.k, .int .i64 t.n, .slice a t.len c] 28)).alloc (.cells #[.nilIface, .slice none 0 0] 61)) w.heap.size #[.int .i64 t.k, .int .i64 t.n, .slice a t.len c] 28:=(Bk.new _ _ rfl).alloc _;have bR:Bk ((w.alloc (.cells #[.int .i64 t.k, .int .i64 t.n, .slice a t.len c] 28)).alloc (.cells #[.nilIface, .slice none 0 0] 61)) (w.heap.size+1) #[.nilIface, .slice none 0 0] 61:=Bk.new _ _ (by simp);have hb0:Below w.heap.size w ((w.alloc (.cells #[.int .i64 t.k, .int .i64 t.n, .slice a t.len c] 28)).alloc (.cells #[.nilIface, .slice none 0 0] 61)):=bAz (bAz (Below.refl _ _) _) _;clear hs H;obtain ⟨x0,x1,x2⟩:=bP.three';go_enter Tryd.func32,Tryd.ntmps32;go_wp2_with fail;generalize ((w.alloc (.cells #[.int .i64 t.k, .int .i64 t.n, .slice a t.len c] 28)).alloc (.cells #[.nilIface, .slice none 0 0] 61))=W0 at *;refine (HK.out t.n _ _).mono ?_;rintro e w1 ⟨rfl,hb1⟩;have bP1:=bP.keep hb1;have bR1:=bR.keep hb1;have hbw1:=bSz hb0 hb1;clear x0 x1 x2 bP bR hb0 hb1;go_wp2_with fail;refine (HS.out t.n _ hn (pow_keep HPW.out hbw1 rfl)).mono ?_;rintro e w2 ⟨⟨sx,rfl⟩,hb2⟩;have bS:Bk (w2.alloc (.cells #[.string sx, .int .i64 (kidN t.k), .int .i64 (numLo t.k), .int .i64 (numHi t.k)] 77)) w2.heap.size #[.string sx, .int .i64 (kidN t.k), .int .i64 (numLo t.k), .int .i64 (numHi t.k)] 77:=Bk.new _ _ rfl;have hbS:Below w2.heap.size w2 (w2.alloc (.cells #[.string sx, .int .i64 (kidN t.k), .int .i64 (numLo t.k), .int .i64 (numHi t.k)] 77)):=bAz (Below.refl _ _) _;have bP2:=(bP1.keep hb2).keep hbS;have bR2:=(bR1.keep hb2).keep hbS;have hbw2:=bSz (bSz hbw1 hb2) hbS;have hg2:=cB hbw2 hg;clear hb2 hbS bP1 bR1 hbw1 hme hen
 go_upto_region 5 with fail
 generalize (w2.alloc (.cells #[.string sx, .int .i64 (kidN t.k), .int .i64 (numLo t.k), .int .i64 (numHi t.k)] 77))=W3 at *;generalize w2.heap.size=sb at *;obtain ⟨x0,x1,x2⟩:=bP2.three';obtain ⟨s0,s1,s2,s3⟩:=bS.four';obtain ⟨r0,r1,f0,f1⟩:=bR2.two;have bo:=(bR2.set01 .nilIface (.slice none 0 0)).drew;have hbo:Below w.heap.size w ((W3.setCell ⟨w.heap.size+1,0,none⟩ .nilIface).setCell ⟨w.heap.size+1,1,none⟩ (.slice none 0 0)).drew:=((hbw2.setCell (by simp) _).setCell (by simp) _).drew;obtain ⟨y0,y1,_,_⟩:=bo.two;have hy0:W3.drew.cell? ⟨0,0,none⟩=some (erV ea):=hg2;clear bP2 bS bR2 bo HS HK
 rcases hbad with h1|⟨h1,h2⟩|⟨h1,h2,h3⟩|⟨h1,h2,h3,h4⟩
 all_goals
  go_wp2_with fail
  go_region
  go_wp2_with fail;refine bodyPost_ret (v:= .tuple #[okZ,erV ea]) (by simp [results,Tryd.results32,go_sem,y0,y1];try rfl) rfl ?_;exact ⟨rfl,hbo⟩
end An
end Go.Proofs.YtbdpcngcbnoioaaDoor
namespace Go.Proofs.YtbdpcngcbnoioaaDoor
open Go.RowKit Go.Shelf
namespace An
theorem kind_of {k:Int} (h:inB k 1 6=true):∃ F,KindIs k (kT k) F:=by
 have h2:1<=k/\k<=6:=by simpa [inB] using h
 have:k=1\/k=2\/k=3\/k=4\/k=5\/k=6:=by omega
 rcases this with rfl|rfl|rfl|rfl|rfl|rfl
 ·exact ⟨_,kind_in⟩
 ·exact ⟨_,kind_each⟩
 ·exact ⟨_,kind_both⟩
 ·exact ⟨_,kind_less⟩
 ·exact ⟨_,kind_join⟩
 ·exact ⟨_,kind_sum⟩
abbrev kiV (t:PT):Value:= .iface (kT t.k) (.int .i64 t.n)
def OkS (p:Nat->Prop) (w:World):PT->Value->Prop
 | .n0 _ _,s=>∃ a c,s= .slice a 0 c
 | .n1 _ _ x,s=>∃ g c sx,s= .slice (some ⟨g,0,none⟩) 1 c/\p g/\w.cell? ⟨g,0,none⟩=some (kiV x)/\w.cell? ⟨g,1,none⟩=some sx/\OkS p w x sx
 | .n2 _ _ x y,s=>∃ g c sx sy,s= .slice (some ⟨g,0,none⟩) 2 c/\p g/\w.cell? ⟨g,0,none⟩=some (kiV x)/\w.cell? ⟨g,1,none⟩=some sx/\w.cell? ⟨g,2,none⟩=some (kiV y)/\w.cell? ⟨g,3,none⟩=some sy/\OkS p w x sx/\OkS p w y sy
 | .nm _ _ m,s=>∃ a c,s= .slice a (m+3) c
theorem OkS.sl {p:Nat->Prop} {w:World} {t:PT} {s:Value} (h:OkS p w t s):∃ a c,s= .slice a t.len c:=by
 cases t with
 | n0 k n=>obtain ⟨a,c,rfl⟩:=h;exact ⟨_,_,rfl⟩
 | n1 k n x=>obtain ⟨g,c,sx,rfl,_⟩:=h;exact ⟨_,_,rfl⟩
 | n2 k n x y=>obtain ⟨g,c,sx,sy,rfl,_⟩:=h;exact ⟨_,_,rfl⟩
 | nm k n m=>obtain ⟨a,c,rfl⟩:=h;exact ⟨_,_,rfl⟩
theorem OkS.move {p q:Nat->Prop} {w w':World} (H:∀ g,p g->g<w.heap.size->q g/\w'.heap[g]?=w.heap[g]?):∀ {t:PT} {s:Value},OkS p w t s->OkS q w' t s
 | .n0 _ _,_,h=>h
 | .nm _ _ _,_,h=>h
 | .n1 _ _ _,_,⟨g,c,sx,e,hp,h1,h2,h3⟩=>⟨g,c,sx,e,(H g hp (lC h1)).1,cell_at (H g hp (lC h1)).2 h1,cell_at (H g hp (lC h1)).2 h2,OkS.move H h3⟩
 | .n2 _ _ _ _,_,⟨g,c,sx,sy,e,hp,h1,h2,h3,h4,h5,h6⟩=>⟨g,c,sx,sy,e,(H g hp (lC h1)).1,cell_at (H g hp (lC h1)).2 h1,cell_at (H g hp (lC h1)).2 h2,cell_at (H g hp (lC h1)).2 h3,cell_at (H g hp (lC h1)).2 h4,OkS.move H h5,OkS.move H h6⟩
theorem okS_of {p q:Nat->Prop} {w:World} {B:Nat} {t:PT} {sl:Value} {ps:List (Value×Value)} (ho:w.ownsRow B 61 2 sl t.len (psC ps)) (hl:ps.length=t.len)
  (hk:∀ j a s,ps[j]?=some (a,s)->a=kiV (t.kid j)/\OkS p w (t.kid j) s) (hq:∀ g,B<=g->q g) (hpq:∀ g,p g->q g):OkS q w t sl:=by
 have hm:∀ {x:PT} {s:Value},OkS p w x s->OkS q w x s:=OkS.move fun g h _=>⟨hpq g h,rfl⟩;have hh:=ho;obtain ⟨_,⟨rfl,h0⟩|⟨g,cap,cur,rfl,hg,_⟩⟩:=ho
 ·cases t with
  | n0 k n=>exact ⟨_,_,rfl⟩
  | n1 k n x=>simp [PT.len] at h0
  | n2 k n x y=>simp [PT.len] at h0
  | nm k n m=>simp [PT.len] at h0
 ·have ha:=fun i (hi:i<t.len*2)=>hh.cellAt i hi;cases t with
  | n0 k n=>exact ⟨_,_,rfl⟩
  | n1 k n x =>
   obtain ⟨⟨a,s⟩,rfl⟩:∃ z,ps=[z]:=by
    match ps,hl with
    | [z],_=>exact ⟨z,rfl⟩
   obtain ⟨e,ok⟩:=hk 0 a s rfl;refine ⟨g,cap,s,rfl,hq g hg,?_,?_,hm ok⟩
   ·rw [ha 0 (by simp [PT.len])];simp [e,PT.kid]
   ·rw [ha 1 (by simp [PT.len])];simp
  | n2 k n x y =>
   obtain ⟨⟨a,s⟩,⟨b,s'⟩,rfl⟩:∃ z z',ps=[z,z']:=by
    match ps,hl with
    | [z,z'],_=>exact ⟨z,z',rfl⟩
   obtain ⟨e,ok⟩:=hk 0 a s rfl;obtain ⟨e',ok'⟩:=hk 1 b s' rfl;refine ⟨g,cap,s,s',rfl,hq g hg,?_,?_,?_,?_,hm ok,hm ok'⟩
   ·rw [ha 0 (by simp [PT.len])];simp [e,PT.kid]
   ·rw [ha 1 (by simp [PT.len])];simp
   ·rw [ha 2 (by simp [PT.len])];simp [e',PT.kid]
   ·rw [ha 3 (by simp [PT.len])];simp
  | nm k n m=>exact ⟨_,_,rfl⟩
end An
end Go.Proofs.YtbdpcngcbnoioaaDoor
