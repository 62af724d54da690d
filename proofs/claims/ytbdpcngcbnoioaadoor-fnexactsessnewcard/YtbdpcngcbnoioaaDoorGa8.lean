import Derived.Lib.SliceRun
import Derived.Test.YtbdpcngcbnoioaaDoorGb3
namespace Go.Proofs.YtbdpcngcbnoioaaDoor
open Go.RowKit
theorem take_of_fill {c:Array Value} {F:LI} (h:Fill c F F.length):c.toList.take (F.length*2)=cellsL F:=by
 apply List.ext_getElem?
 intro i
 by_cases hi:i<F.length*2
 ·rw [List.getElem?_take,if_pos hi,Array.getElem?_toList]
  rcases Nat.mod_two_eq_zero_or_one i with e|e
  ·obtain ⟨q,rfl⟩:∃ q,i=q*2:=⟨i / 2,by omega⟩;rw [(h q (by omega)).1,(cellsL_get F q (by omega)).1]
  ·obtain ⟨q,rfl⟩:∃ q,i=q*2+1:=⟨i / 2,by omega⟩;rw [(h q (by omega)).2,(cellsL_get F q (by omega)).2]
 ·rw [List.getElem?_take,if_neg hi,List.getElem?_eq_none (by rw [cellsL_length];omega)]
theorem own_of_fill {w:World} {B g cap:Nat} {c:Array Value} {F:LI} (h:Bk w g c 46) (hf:Fill c F F.length) (hs:c.size=cap*2) (hc:F.length<=cap) (hm:cap<=maxLen) (hg:B<=g) :
  Own w B (.slice (some ⟨g,0,none⟩) F.length cap) F :=
 ⟨cellsL_length F, .inr ⟨g,cap,c,rfl,hg,h,hc,hm,hs,take_of_fill hf⟩⟩
theorem own_open {w:World} {B:Nat} {v:Value} {l:LI} (h:Own w B v l):(v= .slice none 0 0/\l=[]) \/
  ∃ g cap c,v= .slice (some ⟨g,0,none⟩) l.length cap/\B<=g/\Bk w g c 46/\c.size=cap*2/\l.length<=cap/\cap<=maxLen/\Fill c l l.length:=by
 obtain ⟨h1,⟨rfl,h2⟩|⟨g,cap,cur,rfl,hg,hh,hc,hm,hs,ht⟩⟩:=h
 ·exact .inl ⟨rfl,List.eq_nil_of_length_eq_zero h2⟩
 ·refine .inr ⟨g,cap,cur,rfl,hg,hh,hs,hc,hm,fun i hi=>?_⟩;have e:∀ j,j<l.length*2->cur[j]?=(cellsL l)[j]?:=by
   intro j hj;rw [<- ht,List.getElem?_take,if_pos hj,Array.getElem?_toList]
  rw [e _ (by omega),e _ (by omega)];exact cellsL_get l i hi
end Go.Proofs.YtbdpcngcbnoioaaDoor
