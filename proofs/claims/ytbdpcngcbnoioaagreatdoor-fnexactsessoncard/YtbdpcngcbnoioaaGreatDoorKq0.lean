import Derived.Test.YtbdpcngcbnoioaaGreatDoorGpa
import Derived.Test.YtbdpcngcbnoioaaGreatDoorGa5
namespace Go.Proofs.YtbdpcngcbnoioaaGreatDoor
open Go.RowKit Go.Shelf
def KdQ (p:Nat->Prop) (w:World):PT->Value->Prop
 | .n0 _ _,s=>∃ a c,s= .slice a 0 c
 | .n1 _ _ x,s=>∃ g c cs sx,s= .slice (some ⟨g,0,none⟩) 1 c/\p g/\Bk w g cs 25/\cs[0]?=some (.int .i64 x.k)/\cs[1]?=some (.int .i64 x.n)/\cs[2]?=some sx/\KdQ (fun b=>p b/\b≠g) w x sx
 | .n2 _ _ x y,s=>∃ g c cs sx sy m,s= .slice (some ⟨g,0,none⟩) 2 c/\p g/\Bk w g cs 25/\cs[0]?=some (.int .i64 x.k)/\cs[1]?=some (.int .i64 x.n)/\cs[2]?=some sx/\cs[3]?=some (.int .i64 y.k)/\cs[4]?=some (.int .i64 y.n)/\cs[5]?=some sy/\KdQ (fun b=>(p b/\b≠g)/\b<m) w x sx/\KdQ (fun b=>(p b/\b≠g)/\m<=b) w y sy
theorem KdQ.sl {p:Nat->Prop} {w:World} {t:PT} {s:Value} (h:KdQ p w t s):∃ a c,s= .slice a t.len c:=by
 cases t with
 | n0 k n=>obtain ⟨a,c,rfl⟩:=h;exact ⟨_,_,rfl⟩
 | n1 k n x=>obtain ⟨g,c,cs,sx,rfl,_⟩:=h;exact ⟨_,_,rfl⟩
 | n2 k n x y=>obtain ⟨g,c,cs,sx,sy,m,rfl,_⟩:=h;exact ⟨_,_,rfl⟩
theorem bk_move {w w':World} {g:Nat} {cs:Array Value} {t:TypeId} (h:Bk w g cs t) (e:w'.heap[g]?=w.heap[g]?):Bk w' g cs t:=by unfold Bk;rw [e];exact h
theorem KdQ.move:∀ {t:PT} {p q:Nat->Prop} {w w':World} {s:Value},(∀ g,p g->g<w.heap.size->q g/\w'.heap[g]?=w.heap[g]?)->KdQ p w t s->KdQ q w' t s
 | .n0 _ _,_,_,_,_,_,_,h=>h
 | .n1 _ _ _,_,_,_,_,_,H,⟨g,c,cs,sx,e,hp,hb,h1,h2,h3,h4⟩ =>
  ⟨g,c,cs,sx,e,(H g hp hb.lt).1,bk_move hb (H g hp hb.lt).2,h1,h2,h3,KdQ.move (fun b hb' hl=>⟨⟨(H b hb'.1 hl).1,hb'.2⟩,(H b hb'.1 hl).2⟩) h4⟩
 | .n2 _ _ _ _,_,_,_,_,_,H,⟨g,c,cs,sx,sy,m,e,hp,hb,h1,h2,h3,h4,h5,h6,h7,h8⟩ =>
  ⟨g,c,cs,sx,sy,m,e,(H g hp hb.lt).1,bk_move hb (H g hp hb.lt).2,h1,h2,h3,h4,h5,h6,KdQ.move (fun b hb' hl=>⟨⟨⟨(H b hb'.1.1 hl).1,hb'.1.2⟩,hb'.2⟩,(H b hb'.1.1 hl).2⟩) h7,KdQ.move (fun b hb' hl=>⟨⟨⟨(H b hb'.1.1 hl).1,hb'.1.2⟩,hb'.2⟩,(H b hb'.1.1 hl).2⟩) h8⟩
theorem KdQ.kd {B:Nat} {w:World}:∀ {t:PT} {p:Nat->Prop} {s:Value},(∀ g,p g->B<=g)->KdQ p w t s->KdS B w t s
 | .n0 _ _,_,_,_,h=>h
 | .n1 _ _ _,_,_,H,⟨g,c,_,sx,e,hp,hb,h1,h2,h3,h4⟩=>⟨g,0,c,sx,e,H g hp,hb.cell h1,hb.cell h2,hb.cell h3,KdQ.kd (fun b hb'=>H b hb'.1) h4⟩
 | .n2 _ _ _ _,_,_,H,⟨g,c,_,sx,sy,_,e,hp,hb,h1,h2,h3,h4,h5,h6,h7,h8⟩=>⟨g,0,c,sx,sy,e,H g hp,hb.cell h1,hb.cell h2,hb.cell h3,hb.cell h4,hb.cell h5,hb.cell h6,KdQ.kd (fun b hb'=>H b hb'.1.1) h7,KdQ.kd (fun b hb'=>H b hb'.1.1) h8⟩
def prt (m i g:Nat):Prop:=(i=0->g<m)/\(0<i->m<=g)
theorem KdQ.wk {p q:Nat->Prop} {w:World} {t:PT} {s:Value} (h:KdQ p w t s) (H:∀ g,p g->q g):KdQ q w t s:=h.move fun g hg _=>⟨H g hg,rfl⟩
theorem KdQ.keep {p:Nat->Prop} {w w':World} {t:PT} {s:Value} (h:KdQ p w t s) (hb:Below w.heap.size w w'):KdQ p w' t s:=h.move fun g hg hl=>⟨hg,hb.block g hl⟩
end Go.Proofs.YtbdpcngcbnoioaaGreatDoor
