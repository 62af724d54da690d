import Derived.Test.YtbdpcngcbnoioaaDoorGl1
import Derived.BigRegionIn
import Derived.Sort.CutIn
namespace Go.Proofs.YtbdpcngcbnoioaaDoor
open Go.RowKit Go.Shelf
open Go.ChangeMaps (setBlock)
attribute [local go_sem] Oper.semAt_some
abbrev oneR (v:Value):List Value:=[v]
theorem oneR_len (v:Value):(oneR v).length=1:=rfl
abbrev VsR (w:World) (v:Value) (vs:List Value):Prop:=SlK oneR 1 w v vs
def LyR (w:World) (v:Value) (K:List (List Rw)):Prop:=∃ vs:List Value,VsR w v vs/\vs.length=K.length/\∀ (i:Nat) (u:Value) (l:List Rw),vs[i]?=some u->K[i]?=some l->Rs w u l
theorem LyR.open {w:World} {v:Value} {K:List (List Rw)} (h:LyR w v K):∃ a cap,v= .slice a K.length cap/\K.length<=cap/\cap<=maxLen/\K.length<=2097152 /\
  ∀ (i:Nat) (l:List Rw),K[i]?=some l->∃ g off ad cp,a=some ⟨g,off,none⟩/\g<w.heap.size/\w.cell? ⟨g,off+i,none⟩=some (.slice ad l.length cp)/\Rs w (.slice ad l.length cp) l:=by
 obtain ⟨vs,⟨a,cap,h0,h1,h2,h3,h4⟩,hl,he⟩:=h;rw [hl] at h0 h1 h3;refine ⟨a,cap,h0,h1,h2,h3,fun i l hi=>?_⟩;have hi':i<vs.length:=by rw [hl];exact (List.getElem?_eq_some_iff.1 hi).1
 obtain ⟨g,off,ha,hg,c⟩:=h4 i vs[i] (List.getElem?_eq_getElem hi');have hr:=he i _ l (List.getElem?_eq_getElem hi') hi;obtain ⟨ad,cp,e,-⟩:=Rs.open hr;have hc:=c 0 (by omega);rw [Nat.mul_one,Nat.add_zero] at hc;exact ⟨g,off,ad,cp,ha,hg,by rw [<- e];exact hc,by rw [<- e];exact hr⟩
theorem LyR.sl {w:World} {v:Value} {K:List (List Rw)} (h:LyR w v K):∃ a cap,v= .slice a K.length cap:=by
 obtain ⟨a,cap,e,-⟩:=h.open;exact ⟨a,cap,e⟩
end Go.Proofs.YtbdpcngcbnoioaaDoor
