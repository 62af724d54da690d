import Derived.Test.YtbdpcngcbnoioaaGreatDoorGpb
import Derived.Test.YtbdpcngcbnoioaaGreatDoorGlk
namespace Go.Proofs.YtbdpcngcbnoioaaGreatDoor
open Go.RowKit
theorem LyR.mk1 {w:World} {g off cap:Nat} {v:Value} {x:List Rw} (c0:w.cell? ⟨g,off,none⟩=some v) (R:Rs w v x) (h1:1<=cap) (h2:cap<=maxLen):LyR w (.slice (some ⟨g,off,none⟩) 1 cap) [x]:=by
 refine ⟨[v],⟨some ⟨g,off,none⟩,cap,rfl,h1,h2,by simp,fun i u hi=>?_⟩,rfl,fun i u l h1 h2=>?_⟩
 ·have:i=0:=by have:=(List.getElem?_eq_some_iff.1 hi).1;simp at this;exact this
  subst this;cases hi;exact ⟨g,off,rfl,lC c0,fun j hj=>by obtain rfl:j=0:=(by simpa using hj);simpa using c0⟩
 ·have:i=0:=by have:=(List.getElem?_eq_some_iff.1 h1).1;simp at this;exact this
  subst this;cases h1;cases h2;exact R
theorem LyR.mk2 {w:World} {g off cap:Nat} {v v':Value} {x y:List Rw} (c0:w.cell? ⟨g,off,none⟩=some v) (c1:w.cell? ⟨g,off+1,none⟩=some v') (R:Rs w v x) (R':Rs w v' y) (h1:2<=cap) (h2:cap<=maxLen):LyR w (.slice (some ⟨g,off,none⟩) 2 cap) [x,y]:=by
 have two:∀ {α:Type} {i:Nat} {p q r:α},[p,q][i]?=some r->(i=0/\p=r)\/(i=1/\q=r):=by
  intro α i p q r h
  match i,h with
  | 0,h=>exact .inl ⟨rfl,by simpa using h⟩
  | 1,h=>exact .inr ⟨rfl,by simpa using h⟩
  | i+2,h=>simp at h
 refine ⟨[v,v'],⟨some ⟨g,off,none⟩,cap,rfl,h1,h2,by simp,fun i u hi=>?_⟩,rfl,fun i u l h1 h2=>?_⟩
 ·rcases two hi with ⟨rfl,rfl⟩|⟨rfl,rfl⟩
  ·exact ⟨g,off,rfl,lC c0,fun j hj=>by obtain rfl:j=0:=(by simpa using hj);simpa using c0⟩
  ·exact ⟨g,off,rfl,lC c0,fun j hj=>by obtain rfl:j=0:=(by simpa using hj);simpa using c1⟩
 ·rcases two h1 with ⟨rfl,rfl⟩|⟨rfl,rfl⟩
  ·rcases two h2 with ⟨_,rfl⟩|⟨h,_⟩
   ·exact R
   ·cases h
  ·rcases two h2 with ⟨h,_⟩|⟨_,rfl⟩
   ·cases h
   ·exact R'
end Go.Proofs.YtbdpcngcbnoioaaGreatDoor
