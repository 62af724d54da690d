import Derived.Test.YtbdpcngcbnoioaaDoorKq0
namespace Go.Proofs.YtbdpcngcbnoioaaDoor
open Go.RowKit Go.Shelf
def cntT:PT->Nat
 | .n0 _ _=>0
 | .n1 _ _ x=>1+cntT x
 | .n2 _ _ x y=>2+cntT x+cntT y
def numT:PT->Int->Int->Nat->PT
 | .n0 _ _,a,b,_=> .n0 a b
 | .n1 _ _ x,a,b,k=> .n1 a b (numT x k ((k:Int)+1) (k+2))
 | .n2 _ _ x y,a,b,k=> .n2 a b (numT x k ((k:Int)+1) (k+2)) (numT y ((k+2+2*cntT x:Nat):Int) (((k+2+2*cntT x:Nat):Int)+1) (k+2+2*cntT x+2))
theorem numT_k (t:PT) (a b:Int) (k:Nat):(numT t a b k).k=a:=by cases t<;>rfl
theorem numT_n (t:PT) (a b:Int) (k:Nat):(numT t a b k).n=b:=by cases t<;>rfl
theorem numT_len (t:PT) (a b:Int) (k:Nat):(numT t a b k).len=t.len:=by cases t<;>rfl
def kNo (t:PT) (k:Nat):Nat->Nat
 | 0=>k
 | i+1=>kNo t k i+2+2*cntT (t.kid i)
theorem kNo_end (t:PT) (k:Nat):kNo t k t.len=k+2*cntT t:=by
 cases t<;>simp [kNo,PT.len,cntT,PT.kid]<;>omega
theorem kNo_le (t:PT) (k i:Nat) (h:i<t.len):kNo t k i+2+2*cntT (t.kid i)<=k+2*cntT t:=by
 cases t with
 | n0=>simp [PT.len] at h
 | n1 a b x =>
  obtain rfl:i=0:=by simp [PT.len] at h;exact h
  simp only [kNo,cntT,PT.kid];omega
 | n2 a b x y =>
  rcases i with _|i
  ·simp only [kNo,cntT,PT.kid];omega
  ·obtain rfl:i=0:=by simp [PT.len] at h;omega
   simp only [kNo,cntT,PT.kid];omega
theorem numT_kid (t:PT) (a b:Int) (k i:Nat) (h:i<t.len):(numT t a b k).kid i=numT (t.kid i) (kNo t k i) ((kNo t k i:Int)+1) (kNo t k i+2):=by
 cases t with
 | n0=>simp [PT.len] at h
 | n1 a b x =>
  obtain rfl:i=0:=by simp [PT.len] at h;exact h
  rfl
 | n2 a b x y =>
  rcases i with _|i
  ·rfl
  ·obtain rfl:i=0:=by simp [PT.len] at h;omega
   rfl
def mkN (t:PT) (k i:Nat):PT:=match t with
 | .n0 a b=> .n0 a b
 | .n1 a b x=> .n1 a b (if 0<i then numT x k ((k:Int)+1) (k+2) else x)
 | .n2 a b x y=> .n2 a b (if 0<i then numT x k ((k:Int)+1) (k+2) else x) (if 1<i then numT y ((k+2+2*cntT x:Nat):Int) (((k+2+2*cntT x:Nat):Int)+1) (k+2+2*cntT x+2) else y)
theorem mkN_zero (t:PT) (k:Nat):mkN t k 0=t:=by cases t<;>rfl
theorem mkN_end (t:PT) (k:Nat):mkN t k t.len=numT t t.k t.n k:=by cases t<;>rfl
structure Px (p:Nat->Prop) (w w':World):Prop where
 os:w'.os=w.os
 tape:w'.tape=w.tape
 output:w'.output=w.output
 size:w.heap.size<=w'.heap.size
 block:∀ b,b<w.heap.size->¬ p b->w'.heap[b]?=w.heap[b]?
theorem Px.refl (p:Nat->Prop) (w:World):Px p w w:=⟨rfl,rfl,rfl,Nat.le_refl _,fun _ _ _=>rfl⟩
theorem Px.trans {p:Nat->Prop} {a b c:World} (h:Px p a b) (h':Px p b c):Px p a c:=⟨h'.os.trans h.os,h'.tape.trans h.tape,h'.output.trans h.output,Nat.le_trans h.size h'.size,fun i hi hp=>(h'.block i (Nat.lt_of_lt_of_le hi h.size) hp).trans (h.block i hi hp)⟩
theorem Px.mono {p q:Nat->Prop} {a b:World} (h:Px p a b) (H:∀ i,p i->q i):Px q a b:=⟨h.os,h.tape,h.output,h.size,fun i hi hq=>h.block i hi fun hp=>hq (H i hp)⟩
theorem Px.set {p:Nat->Prop} {a w:World} (h:Px p a w) {g i:Nat} (hg:p g) (v:Value):Px p a (w.setCell ⟨g,i,none⟩ v) :=
 h.trans ⟨rfl,rfl,rfl,by simp,fun b _ hp=>Below.heap_setCell _ _ _ _ (fun e=>hp (by have e2:b=g:=e;rw [e2];exact hg))⟩
theorem Px.of_below {p:Nat->Prop} {w w':World} (h:Below w.heap.size w w'):Px p w w':=⟨h.os,h.tape,h.output,h.size,fun b hb _=>h.block b hb⟩
theorem Px.below {p:Nat->Prop} {B:Nat} {a w w':World} (h:Px p w w') (h0:Below B a w) (hB:B<=w.heap.size) (H:∀ i,p i->B<=i):Below B a w' :=
 h0.trans ⟨h.os,h.tape,h.output,h.size,fun b hb=>h.block b (by omega) fun hp=>by have:=H b hp;omega⟩
theorem kdQ_kid {t:PT} {k i:Nat} {p:Nat->Prop} {w:World} {s:Value} (h:KdQ p w (mkN t k i) s) (hi:i<t.len) :
  ∃ (g c:Nat) (cs:Array Value) (v0 v1 sx:Value) (pi:Nat->Prop),s= .slice (some ⟨g,0,none⟩) t.len c/\p g/\Bk w g cs 28/\cs[i*3]?=some v0/\cs[i*3+1]?=some v1/\cs[i*3+2]?=some sx/\KdQ pi w (t.kid i) sx/\(∀ b,pi b->p b/\b≠g) /\
   (∀ (w':World) (cs':Array Value),Bk w' g cs' 28->cs'[i*3]?=some (.int .i64 (kNo t k i))->cs'[i*3+1]?=some (.int .i64 ((kNo t k i:Int)+1))->(∀ j,j≠i*3->j≠i*3+1->cs'[j]?=cs[j]?)->(∀ b,b<w.heap.size->¬ pi b->b≠g->w'.heap[b]?=w.heap[b]?) ->
    KdQ pi w' (numT (t.kid i) (kNo t k i) ((kNo t k i:Int)+1) (kNo t k i+2)) sx->KdQ p w' (mkN t k (i+1)) s):=by
 cases t with
 | n0=>simp [PT.len] at hi
 | n1 a b x =>
  obtain rfl:i=0:=by simp [PT.len] at hi;exact hi
  obtain ⟨g,c,cs,sx,e,hp,hb,h0,h1,h2,h3⟩:=h;refine ⟨g,c,cs,_,_,sx,_,e,hp,hb,h0,h1,h2,h3,fun b hb=>hb,fun w' cs' hb' c0 c1 cj _ hk=>⟨g,c,cs',sx,e,hp,hb',?_,?_,by rw [cj 2 (by omega) (by omega)];exact h2,?_⟩⟩
  ·rw [if_pos (by omega),numT_k];exact c0
  ·rw [if_pos (by omega),numT_n];exact c1
  ·rw [if_pos (by omega)];exact hk
 | n2 a b x y =>
  obtain ⟨g,c,cs,sx,sy,m,e,hp,hb,h0,h1,h2,h3,h4,h5,hx,hy⟩:=h
  rcases i with _|i
  ·refine ⟨g,c,cs,_,_,sx,_,e,hp,hb,h0,h1,h2,hx,fun b hb=>hb.1,fun w' cs' hb' c0 c1 cj hr hk=>⟨g,c,cs',sx,sy,m,e,hp,hb',?_,?_,by rw [cj 2 (by omega) (by omega)];exact h2,?_,?_,by rw [cj 5 (by omega) (by omega)];exact h5,?_,?_⟩⟩
   ·rw [if_pos (by omega),numT_k];exact c0
   ·rw [if_pos (by omega),numT_n];exact c1
   ·rw [cj 3 (by omega) (by omega)];exact h3
   ·rw [cj 4 (by omega) (by omega)];exact h4
   ·rw [if_pos (by omega)];exact hk
   ·exact hy.move fun b hb hl=>⟨hb,hr b hl (fun h=>by have h6:=h.2;have h7:=hb.2;omega) hb.1.2⟩
  ·obtain rfl:i=0:=by simp [PT.len] at hi;omega
   refine ⟨g,c,cs,_,_,sy,_,e,hp,hb,h3,h4,h5,hy,fun b hb=>hb.1,fun w' cs' hb' c0 c1 cj hr hk=>⟨g,c,cs',sx,sy,m,e,hp,hb',?_,?_,by rw [cj 2 (by omega) (by omega)];exact h2,?_,?_,by rw [cj 5 (by omega) (by omega)];exact h5,?_,?_⟩⟩
   ·rw [cj 0 (by omega) (by omega)];exact h0
   ·rw [cj 1 (by omega) (by omega)];exact h1
   ·rw [if_pos (by omega),numT_k];exact c0
   ·rw [if_pos (by omega),numT_n];exact c1
   ·exact hx.move fun b hb hl=>⟨hb,hr b hl (fun h=>by have h6:=h.2;have h7:=hb.2;omega) hb.1.2⟩
   ·rw [if_pos (by omega)];exact hk
end Go.Proofs.YtbdpcngcbnoioaaDoor
