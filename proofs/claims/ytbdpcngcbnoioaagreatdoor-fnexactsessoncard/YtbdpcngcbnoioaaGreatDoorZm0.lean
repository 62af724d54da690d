import Derived.Test.YtbdpcngcbnoioaaGreatDoorGd3
namespace Go.Proofs.YtbdpcngcbnoioaaGreatDoor
open Go.RowKit
def gl (L:List (List Rw)) (i:Nat):List Rw:=L.getD i []
theorem gl_at {L:List (List Rw)} {i:Nat} (h:i<L.length):L[i]?=some (gl L i):=by
 unfold gl;rw [List.getD_eq_getElem?_getD,List.getElem?_eq_getElem h];rfl
theorem gl_mem {L:List (List Rw)} {i:Nat} (h:i<L.length):gl L i∈L:=List.mem_of_getElem? (gl_at h)
end Go.Proofs.YtbdpcngcbnoioaaGreatDoor
namespace Go.Proofs.YtbdpcngcbnoioaaGreatDoor
open Go.RowKit
end Go.Proofs.YtbdpcngcbnoioaaGreatDoor
namespace Go.Proofs.YtbdpcngcbnoioaaGreatDoor
open Go.RowKit Go.Shelf
abbrev valC (v:Value):List Value:=[v]
theorem valC_len (v:Value):(valC v).length=1:=rfl
abbrev Vs (w:World) (v:Value) (vs:List Value):Prop:=SlK valC 1 w v vs
abbrev OwnV (w:World) (B:Nat) (v:Value) (vs:List Value):Prop:=OwnK valC 1 28 w B v vs
theorem infoV:(Tryz.prog.info? 28).map (fun i=>(i.zero,i.size,i.bytes))=some (some (.slice none 0 0),1,24):=by kernel_rfl
theorem OwnV.vs {w:World} {B:Nat} {v:Value} {l:List Value} (h:OwnV w B v l) (hl:l.length<=2097152):Vs w v l:=ownK_sl h valC_len hl
def Each (w:World) (vs:List Value) (L:List (List Rw)):Prop:=vs.length=L.length/\∀ (i:Nat) (u:Value) (l:List Rw),vs[i]?=some u->L[i]?=some l->Rs w u l
theorem Each.keep {w w1:World} {vs:List Value} {L:List (List Rw)} (h:Each w vs L) (hb:Below w.heap.size w w1):Each w1 vs L:=⟨h.1,fun i u l h1 h2=>(h.2 i u l h1 h2).keep hb⟩
theorem Each.at {w:World} {vs:List Value} {L:List (List Rw)} (h:Each w vs L) {i:Nat} {u:Value} (hu:vs[i]?=some u):Rs w u (gl L i) :=
 h.2 i u _ hu (gl_at (by rw [<- h.1];exact (List.getElem?_eq_some_iff.1 hu).1))
def Ly (w:World) (v:Value) (L:List (List Rw)):Prop:=∃ vs:List Value,Vs w v vs/\Each w vs L
theorem Ly.keep {w w1:World} {v:Value} {L:List (List Rw)} (h:Ly w v L) (hb:Below w.heap.size w w1):Ly w1 v L:=by
 obtain ⟨vs,h1,h2⟩:=h;exact ⟨vs,h1.keep hb,h2.keep hb⟩
theorem OwnV.ly {w:World} {B:Nat} {v:Value} {vs:List Value} {L:List (List Rw)} (h:OwnV w B v vs) (hl:vs.length<=2097152) (he:Each w vs L):Ly w v L:=⟨vs,OwnV.vs h hl,he⟩
theorem Ly.open {w:World} {v:Value} {L:List (List Rw)} (h:Ly w v L):∃ a cap,v= .slice a L.length cap/\L.length<=cap/\cap<=maxLen/\L.length<=2097152 /\
  ∀ i,i<L.length->∃ g off ad cp,a=some ⟨g,off,none⟩/\g<w.heap.size/\w.cell? ⟨g,off+i,none⟩=some (.slice ad (gl L i).length cp)/\Rs w (.slice ad (gl L i).length cp) (gl L i):=by
 obtain ⟨vs,⟨a,cap,h0,h1,h2,h3,h4⟩,he⟩:=h;rw [he.1] at h0 h1 h3;refine ⟨a,cap,h0,h1,h2,h3,fun i hi=>?_⟩;have hi':i<vs.length:=by rw [he.1];exact hi
 obtain ⟨g,off,ha,hg,c⟩:=h4 i vs[i] (List.getElem?_eq_getElem hi');have hr:=he.at (List.getElem?_eq_getElem hi');obtain ⟨ad,cp,e,-⟩:=Rs.open hr;have hc:=c 0 (by omega);rw [Nat.mul_one,Nat.add_zero] at hc;exact ⟨g,off,ad,cp,ha,hg,by rw [<- e];exact hc,by rw [<- e];exact hr⟩
end Go.Proofs.YtbdpcngcbnoioaaGreatDoor
