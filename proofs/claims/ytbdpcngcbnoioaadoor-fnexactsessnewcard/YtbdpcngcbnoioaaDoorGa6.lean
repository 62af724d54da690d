import Derived.Test.YtbdpcngcbnoioaaDoorGa1
import Derived.BigRegion
import Derived.Test.YtbdpcngcbnoioaaDoorGa5
import Derived.Deep.RegionWith
import Derived.Test.YtbdpcngcbnoioaaDoorGa4
namespace Go.Proofs.YtbdpcngcbnoioaaDoor
open Go.RowKit
attribute [local go_sem ↓] Go.wp_at_zero Go.wp_at_succ
attribute [local go_sem ↓] Go.wp_at_zero Go.wp_at_succ
attribute [local go_sem ↓] Go.wp_at_zero Go.wp_at_succ
end Go.Proofs.YtbdpcngcbnoioaaDoor
namespace Go.Proofs.YtbdpcngcbnoioaaDoor
open Go.RowKit
attribute [local go_sem ↓] Go.wp_at_zero Go.wp_at_succ
attribute [local go_sem ↓] Go.wp_at_zero Go.wp_at_succ
def cellsL (l:LI):List Value:=l.flatMap fun p=>[.int .i64 p.1, .int .i64 p.2]
theorem cellsL_length (l:LI):(cellsL l).length=l.length*2:=by
 induction l with
 | nil=>rfl
 | cons p l ih=>unfold cellsL at *;simp [List.flatMap_cons,ih];omega
theorem cellsL_get (l:LI) (i:Nat) (h:i<l.length):(cellsL l)[i*2]?=some (.int .i64 (tA l i))/\(cellsL l)[i*2+1]?=some (.int .i64 (tB l i)):=by
 induction l generalizing i with
 | nil=>simp at h
 | cons p l ih =>
  cases i with
  | zero=>simp [cellsL,tA,tB,List.flatMap_cons]
  | succ i =>
   have:=ih i (by simpa using h);have e1:(i+1)*2=i*2+2:=by omega
   have e2:(i+1)*2+1=i*2+1+2:=by omega
   rw [e1]
   simpa [cellsL,List.flatMap_cons,tA,tB] using this
abbrev Own (w:World) (B:Nat) (v:Value) (l:LI):Prop:=w.ownsRow B 46 2 v l.length (cellsL l)
theorem Own.ts {w:World} {B:Nat} {v:Value} {l:LI} (h:Own w B v l) (hl:l.length<=2097152):Ts w v l:=by
 have hh:=h;obtain ⟨_,h2⟩:=h
 rcases h2 with ⟨rfl,h0⟩|⟨g,cap,cur,rfl,hg,hb,hc,hm,_,_⟩
 ·have:l=[]:=List.eq_nil_of_length_eq_zero h0;subst this;exact ⟨none,0,rfl,Nat.le_refl _,by unfold maxLen;omega,by simp,fun i hi=>by simp at hi⟩
 ·refine ⟨_,cap,rfl,hc,hm,hl,fun i hi=>⟨g,0,rfl,lt_of_block hb,?_,?_⟩⟩
  ·rw [Nat.zero_add,hh.cellAt _ (by omega)];exact (cellsL_get l i hi).1
  ·rw [Nat.zero_add,hh.cellAt _ (by omega)];exact (cellsL_get l i hi).2
theorem own_move {w w1:World} {B:Nat} {e:TypeId} {s:Nat} {v:Value} {n:Nat} {xs:List Value} (h:w.ownsRow B e s v n xs) (hb:∀ k,B<=k->k<w.heap.size->w1.heap[k]?=w.heap[k]?):w1.ownsRow B e s v n xs:=by
 obtain ⟨h1,h2⟩:=h;refine ⟨h1,?_⟩
 rcases h2 with h2|⟨g,cap,cur,rfl,hg,hh,r⟩
 ·exact .inl h2
 ·exact .inr ⟨g,cap,cur,rfl,hg,by rw [hb g hg (lt_of_block hh)];exact hh,r⟩
theorem oK {w w1:World} {B:Nat} {e:TypeId} {s:Nat} {v:Value} {n:Nat} {xs:List Value} (h:w.ownsRow B e s v n xs) (hx:Below w.heap.size w w1):w1.ownsRow B e s v n xs :=
 own_move h fun k _ hs=>hx.block k hs
end Go.Proofs.YtbdpcngcbnoioaaDoor
