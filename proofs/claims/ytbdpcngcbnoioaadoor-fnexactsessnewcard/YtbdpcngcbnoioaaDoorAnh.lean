import Derived.Test.YtbdpcngcbnoioaaDoorGd3
import Derived.Test.YtbdpcngcbnoioaaDoorFr25
import Derived.Test.YtbdpcngcbnoioaaDoorAng
import Derived.Test.YtbdpcngcbnoioaaDoorGlk
namespace Go.Proofs.YtbdpcngcbnoioaaDoor
open Go.RowKit
def gl (L:List (List Rw)) (i:Nat):List Rw:=L.getD i []
theorem gl_at {L:List (List Rw)} {i:Nat} (h:i<L.length):L[i]?=some (gl L i):=by
 unfold gl;rw [List.getD_eq_getElem?_getD,List.getElem?_eq_getElem h];rfl
end Go.Proofs.YtbdpcngcbnoioaaDoor
namespace Go.Proofs.YtbdpcngcbnoioaaDoor
open Go.RowKit
end Go.Proofs.YtbdpcngcbnoioaaDoor
namespace Go.Proofs.YtbdpcngcbnoioaaDoor
open Go.RowKit Go.Shelf
abbrev valC (v:Value):List Value:=[v]
theorem valC_len (v:Value):(valC v).length=1:=rfl
abbrev Vs (w:World) (v:Value) (vs:List Value):Prop:=SlK valC 1 w v vs
abbrev OwnV (w:World) (B:Nat) (v:Value) (vs:List Value):Prop:=OwnK valC 1 31 w B v vs
theorem OwnV.vs {w:World} {B:Nat} {v:Value} {l:List Value} (h:OwnV w B v l) (hl:l.length<=2097152):Vs w v l:=ownK_sl h valC_len hl
def Each (w:World) (vs:List Value) (L:List (List Rw)):Prop:=vs.length=L.length/\∀ (i:Nat) (u:Value) (l:List Rw),vs[i]?=some u->L[i]?=some l->Rs w u l
theorem Each.keep {w w1:World} {vs:List Value} {L:List (List Rw)} (h:Each w vs L) (hb:Below w.heap.size w w1):Each w1 vs L:=⟨h.1,fun i u l h1 h2=>(h.2 i u l h1 h2).keep hb⟩
theorem Each.nil (w:World):Each w [] []:=⟨rfl,fun i u l h=>by simp at h⟩
theorem Each.at {w:World} {vs:List Value} {L:List (List Rw)} (h:Each w vs L) {i:Nat} {u:Value} (hu:vs[i]?=some u):Rs w u (gl L i) :=
 h.2 i u _ hu (gl_at (by rw [<- h.1];exact (List.getElem?_eq_some_iff.1 hu).1))
def Ly (w:World) (v:Value) (L:List (List Rw)):Prop:=∃ vs:List Value,Vs w v vs/\Each w vs L
theorem Ly.keep {w w1:World} {v:Value} {L:List (List Rw)} (h:Ly w v L) (hb:Below w.heap.size w w1):Ly w1 v L:=by
 obtain ⟨vs,h1,h2⟩:=h;exact ⟨vs,h1.keep hb,h2.keep hb⟩
theorem Ly.nil (w:World):Ly w (.slice none 0 0) []:=⟨[],OwnV.vs (oN valC 1 31 w 0) (by simp),Each.nil w⟩
theorem Ly.open {w:World} {v:Value} {L:List (List Rw)} (h:Ly w v L):∃ a cap,v= .slice a L.length cap/\L.length<=cap/\cap<=maxLen/\L.length<=2097152 /\
  ∀ i,i<L.length->∃ g off ad cp,a=some ⟨g,off,none⟩/\g<w.heap.size/\w.cell? ⟨g,off+i,none⟩=some (.slice ad (gl L i).length cp)/\Rs w (.slice ad (gl L i).length cp) (gl L i):=by
 obtain ⟨vs,⟨a,cap,h0,h1,h2,h3,h4⟩,he⟩:=h;rw [he.1] at h0 h1 h3;refine ⟨a,cap,h0,h1,h2,h3,fun i hi=>?_⟩;have hi':i<vs.length:=by rw [he.1];exact hi
 obtain ⟨g,off,ha,hg,c⟩:=h4 i vs[i] (List.getElem?_eq_getElem hi');have hr:=he.at (List.getElem?_eq_getElem hi');obtain ⟨ad,cp,e,-⟩:=Rs.open hr;have hc:=c 0 (by omega);rw [Nat.mul_one,Nat.add_zero] at hc;exact ⟨g,off,ad,cp,ha,hg,by rw [<- e];exact hc,by rw [<- e];exact hr⟩
end Go.Proofs.YtbdpcngcbnoioaaDoor
set_option maxRecDepth 100000
set_option maxHeartbeats 4000000
namespace Go.Proofs.YtbdpcngcbnoioaaDoor
open Go.ChangeShapes Go.WideShapes Go.ChangeAt Go.RowKit Go.Joins
theorem eqRowSS_same (v v':Value) (L:List (List Rw)) (w:World) (h:Ly w v L) (h':Ly w v' L) :
  Calls Tryd.prog 19 #[v,v'] w fun e w'=>e= .returned (.bool true)/\Below w.heap.size w w':=by
 obtain ⟨a,cap,rfl,hc,hm,hn,hcells⟩:=Ly.open h;obtain ⟨a',cap',rfl,hc',hm',hn',hcells'⟩:=Ly.open h';unfold maxLen at hm hm';have HC:=(show Hid _ from hcells);have HC':=(show Hid _ from hcells');clear hcells hcells' hn' h h';go_enter Tryd.func19,Tryd.ntmps19;go_wp2_with fail
 go_loopw [5] (fun i wr=>∃ k:Nat,k<=L.length/\i= .int .i64 k/\Below w.heap.size w wr) (fun i _=>L.length-(intOf i).toNat)
 case atStart=>exact ⟨0,by omega,rfl,Below.refl _ _⟩
 case round =>
  obtain ⟨k,hk,rfl,hb⟩:=hrel
  by_cases hlt:k<L.length
  ·obtain ⟨g,off,ad,cp,rfl,hg,c0,hR⟩:=HC.out k hlt;obtain ⟨g',off',ad',cp',rfl,hg',c0',hR'⟩:=HC'.out k hlt;have d0:∀ p:Bel wr,p.ww.cell? ⟨g,off+k,none⟩=some (.slice ad (gl L k).length cp):=fun p=>cB p.below (cB hb c0);have d1:∀ p:Bel wr,p.ww.cell? ⟨g',off'+k,none⟩=some (.slice ad' (gl L k).length cp'):=fun p=>cB p.below (cB hb c0');have r0:∀ p:Bel wr,Rs p.ww (.slice ad (gl L k).length cp) (gl L k):=fun p=>(hR.keep hb).keep p.below;have r1:∀ p:Bel wr,Rs p.ww (.slice ad' (gl L k).length cp') (gl L k):=fun p=>(hR'.keep hb).keep p.below;clear c0 c0' hR hR';have ik:((k:Int)<(L.length:Int)):=by omega
   have hne:=bel_some wr;go_wp2_with fail
   (refine wB (by kernel_rfl) (by kernel_rfl) ?_;(repeat (go_big_quiet_step ((first|(go_at_call 21;exact clz (eqRowS_same _ _ (gl L k) _ (r0 _) (r1 _)))))));refine wpQuiet_nil ?_)
   intro w1 hw1
   replace hw1:=bO hw1
   have hbw:=bSz hb hw1;go_wp2_with fail;go_roundw
   case rel=>exact ⟨k+1,by omega,by go_num,hbw⟩
   case measure=>simp [intOf];omega
  ·go_wp2_with fail;go_ret;exact ⟨rfl,hb⟩
end Go.Proofs.YtbdpcngcbnoioaaDoor
namespace Go.Proofs.YtbdpcngcbnoioaaDoor
open Go.ChangeShapes Go.WideShapes Go.ChangeAt Go.RowKit Go.Joins
end Go.Proofs.YtbdpcngcbnoioaaDoor
namespace Go.Proofs.YtbdpcngcbnoioaaDoor
open Go.RowKit Go.Shelf
end Go.Proofs.YtbdpcngcbnoioaaDoor
namespace Go.Proofs.YtbdpcngcbnoioaaDoor
open Go.RowKit
structure Bz (lo hi:Nat) (w w':World):Prop where
 os:w'.os=w.os
 tape:w'.tape=w.tape
 output:w'.output=w.output
 size:w.heap.size<=w'.heap.size
 block:∀ k,k<w.heap.size->(k<lo\/hi<=k)->w'.heap[k]?=w.heap[k]?
theorem Bz.below {lo hi n:Nat} {w0 w w':World} (h:Bz lo hi w w') (h0:Below n w0 w) (hn:n<=w.heap.size) (hl:n<=lo):Below n w0 w' :=
 h0.trans ⟨h.os,h.tape,h.output,h.size,fun k hk=>h.block k (by omega) (by omega)⟩
theorem Bk.keepz {lo hi:Nat} {w w1:World} {k:Nat} {c:Array Value} {t:TypeId} (h:Bk w k c t) (hb:Bz lo hi w w1) (hk:k<lo\/hi<=k):Bk w1 k c t:=by
 unfold Bk;rw [hb.block k h.lt hk];exact h
theorem Bk.under {N:Nat} {w w1:World} {k:Nat} {c:Array Value} {t:TypeId} (h:Bk w k c t) (hb:Below N w w1) (hk:k<N):Bk w1 k c t:=by
 unfold Bk;rw [hb.block k hk];exact h
end Go.Proofs.YtbdpcngcbnoioaaDoor
namespace Go.Proofs.YtbdpcngcbnoioaaDoor
open Go.RowKit Go.Shelf
theorem Nx.bz {lo hi:Nat} {w w':World} (h:Nx lo hi w w'):Bz lo hi w w':=⟨h.os,h.tape,h.output,h.size,h.block⟩
end Go.Proofs.YtbdpcngcbnoioaaDoor
