import Derived.Test.YtbdpcngcbnoioaaDoorAn6
namespace Go.Proofs.YtbdpcngcbnoioaaDoor
open Go.RowKit Go.Shelf
def anTo:An.PT->PT
 | .n0 k n=> .n0 k n
 | .n1 k n a=> .n1 k n (anTo a)
 | .n2 k n a b=> .n2 k n (anTo a) (anTo b)
 | .nm k n _=> .n0 k n
theorem anTo_k (t:An.PT):(anTo t).k=t.k:=by cases t<;>rfl
theorem anTo_n (t:An.PT):(anTo t).n=t.n:=by cases t<;>rfl
theorem an_ok:∀ {t:An.PT} {d:Nat},An.pokB t d=true->pokB (anTo t) d=true
 | t,0,h=>by rw [An.pok_zero] at h;cases h
 | .n0 _ _,_+1,h=>h
 | .n1 k n a,d+1,h=>by
  have h2:(An.hereB (.n1 k n a)&&An.pokB a d)=true:=h;simp only [Bool.and_eq_true] at h2
  show (hereB (.n1 k n (anTo a))&&pokB (anTo a) d)=true
  simp only [Bool.and_eq_true];exact ⟨h2.1,an_ok h2.2⟩
 | .n2 k n a b,d+1,h=>by
  have h2:(An.hereB (.n2 k n a b)&&An.pokB a d&&An.pokB b d)=true:=h;simp only [Bool.and_eq_true] at h2
  show (hereB (.n2 k n (anTo a) (anTo b))&&pokB (anTo a) d&&pokB (anTo b) d)=true
  simp only [Bool.and_eq_true];exact ⟨⟨h2.1.1,an_ok h2.1.2⟩,an_ok h2.2⟩
 | .nm _ _ _,_+1,h=>by cases h
theorem an_kds {B:Nat} {w:World}:∀ {t:An.PT} {d:Nat} {s:Value},An.pokB t d=true->An.KdS B w t s->KdS B w (anTo t) s
 | t,0,_,h,_=>by rw [An.pok_zero] at h;cases h
 | .n0 _ _,_+1,_,_,hs=>hs
 | .n1 k n a,d+1,_,h,hs=>by
  have h2:(An.hereB (.n1 k n a)&&An.pokB a d)=true:=h;simp only [Bool.and_eq_true] at h2;obtain ⟨g,off,c,sx,e,hg,h3,h4,h5,h6⟩:=hs;exact ⟨g,off,c,sx,e,hg,by rw [anTo_k];exact h3,by rw [anTo_n];exact h4,h5,an_kds h2.2 h6⟩
 | .n2 k n a b,d+1,_,h,hs=>by
  have h2:(An.hereB (.n2 k n a b)&&An.pokB a d&&An.pokB b d)=true:=h;simp only [Bool.and_eq_true] at h2;obtain ⟨g,off,c,sx,sy,e,hg,h3,h4,h5,h6,h7,h8,h9,h10⟩:=hs;exact ⟨g,off,c,sx,sy,e,hg,by rw [anTo_k];exact h3,by rw [anTo_n];exact h4,h5,by rw [anTo_k];exact h6,by rw [anTo_n];exact h7,h8,an_kds h2.1.2 h9,an_kds h2.2 h10⟩
 | .nm _ _ _,_+1,_,h,_=>by cases h
inductive RT where
 | nil
 | mk (k n:Int) (m:Nat) (f:Nat->RT)
def RT.k:RT->Int| .nil=>0| .mk k _ _ _=>k
def RT.n:RT->Int| .nil=>0| .mk _ n _ _=>n
def RT.m:RT->Nat| .nil=>0| .mk _ _ m _=>m
def RT.f:RT->Nat->RT| .nil,_=> .nil| .mk _ _ _ f,i=>f i
def RT.fits:RT->Prop
 | .nil=>False
 | .mk k n m f=>(-9223372036854775808<=k/\k<=9223372036854775807)/\(-9223372036854775808<=n/\n<=9223372036854775807)/\∀ i,i<m->(f i).fits
def RT.nds:RT->Nat
 | .nil=>0
 | .mk _ _ m f=>m+((List.range m).map fun i=>(f i).nds).sum
def RT.cut:RT->An.PT
 | .nil=> .n0 0 0
 | .mk k n 0 _=> .n0 k n
 | .mk k n 1 f=> .n1 k n (f 0).cut
 | .mk k n 2 f=> .n2 k n (f 0).cut (f 1).cut
 | .mk k n (m+3) _=> .nm k n m
theorem RT.cut_k (t:RT):t.cut.k=t.k:=by
 rcases t with _|⟨k,n,m,f⟩
 ·rfl
 match m with
 | 0=>rfl
 | 1=>rfl
 | 2=>rfl
 | m+3=>rfl
theorem RT.cut_n (t:RT):t.cut.n=t.n:=by
 rcases t with _|⟨k,n,m,f⟩
 ·rfl
 match m with
 | 0=>rfl
 | 1=>rfl
 | 2=>rfl
 | m+3=>rfl
theorem RT.cut_sm:∀ {t:RT},t.fits->t.cut.sm
 | .nil,h=>h.elim
 | .mk _ _ 0 _,h=>h.2.1
 | .mk _ _ 1 f,h=>⟨h.2.1,RT.cut_sm (h.2.2 0 (by omega))⟩
 | .mk _ _ 2 f,h=>⟨h.2.1,RT.cut_sm (h.2.2 0 (by omega)),RT.cut_sm (h.2.2 1 (by omega))⟩
 | .mk _ _ (_+3) _,h=>h.2.1
def RdS (B:Nat) (w:World):RT->Value->Prop
 | .nil,_=>False
 | .mk _ _ m f,s=>∃ a c,s= .slice a m c/\m<=c/\c<=maxLen/\∀ i,i<m->∃ g off sx,a=some ⟨g,off,none⟩/\B<=g/\w.cell? ⟨g,off+i*3,none⟩=some (.int .i64 (f i).k)/\w.cell? ⟨g,off+i*3+1,none⟩=some (.int .i64 (f i).n)/\w.cell? ⟨g,off+i*3+2,none⟩=some sx/\RdS B w (f i) sx
theorem RdS.keep {B:Nat} {w w':World} (hb:Below w.heap.size w w'):∀ {t:RT} {s:Value},RdS B w t s->RdS B w' t s
 | .nil,_,h=>h.elim
 | .mk _ _ _ f,_,⟨a,c,e,h1,h2,h⟩=>⟨a,c,e,h1,h2,fun i hi=>by
  obtain ⟨g,off,sx,e1,hg,h3,h4,h5,h6⟩:=h i hi;exact ⟨g,off,sx,e1,hg,cB hb h3,cB hb h4,cB hb h5,RdS.keep hb h6⟩⟩
theorem RdS.sl {B:Nat} {w:World} {t:RT} {s:Value} (h:RdS B w t s):∃ a c,s= .slice a t.m c/\t.m<=c/\c<=maxLen:=by
 rcases t with _|⟨k,n,m,f⟩
 ·exact h.elim
 obtain ⟨a,c,e,h1,h2,_⟩:=h;exact ⟨a,c,e,h1,h2⟩
theorem RdS.at {B:Nat} {w:World} {t:RT} {a:Option Addr} {n c:Nat} (h:RdS B w t (.slice a n c)) {i:Nat} (hi:i<t.m) :
  ∃ g off b d,a=some ⟨g,off,none⟩/\g<w.heap.size/\w.cell? ⟨g,off+i*3,none⟩=some (.int .i64 (t.f i).k)/\w.cell? ⟨g,off+i*3+1,none⟩=some (.int .i64 (t.f i).n)/\w.cell? ⟨g,off+i*3+2,none⟩=some (.slice b (t.f i).m d)/\RdS B w (t.f i) (.slice b (t.f i).m d):=by
 rcases t with _|⟨k,n,m,f⟩
 ·exact h.elim
 obtain ⟨a',c',e,_,_,h2⟩:=h;cases e;obtain ⟨g,off,sx,e1,_,h3,h4,h5,h6⟩:=h2 i hi;obtain ⟨b,d,e2,_⟩:=h6.sl;subst e2;exact ⟨g,off,b,d,e1,lC h3,h3,h4,h5,h6⟩
theorem RdS.cut {B:Nat} {w:World}:∀ {t:RT} {s:Value},RdS B w t s->An.KdS B w t.cut s
 | .nil,_,h=>h.elim
 | .mk _ _ 0 _,_,⟨a,c,e,_⟩=>⟨a,c,e⟩
 | .mk _ _ 1 f,_,⟨a,c,e,_,_,h⟩=>by
  obtain ⟨g,off,sx,e1,hg,h3,h4,h5,h6⟩:=h 0 (by omega);subst e1;exact ⟨g,off,c,sx,e,hg,by rw [RT.cut_k];simpa using h3,by rw [RT.cut_n];simpa using h4,by simpa using h5,RdS.cut h6⟩
 | .mk _ _ 2 f,_,⟨a,c,e,_,_,h⟩=>by
  obtain ⟨g,off,sx,e1,hg,h3,h4,h5,h6⟩:=h 0 (by omega);obtain ⟨g2,off2,sy,e2,hg2,h7,h8,h9,h10⟩:=h 1 (by omega);subst e1;cases e2;exact ⟨g,off,c,sx,sy,e,hg,by rw [RT.cut_k];simpa using h3,by rw [RT.cut_n];simpa using h4,by simpa using h5,by rw [RT.cut_k];simpa using h7,by rw [RT.cut_n];simpa using h8,by simpa using h9,RdS.cut h6,RdS.cut h10⟩
 | .mk _ _ (m+3) _,_,⟨a,c,e,_⟩=>⟨a,c,e⟩
end Go.Proofs.YtbdpcngcbnoioaaDoor
