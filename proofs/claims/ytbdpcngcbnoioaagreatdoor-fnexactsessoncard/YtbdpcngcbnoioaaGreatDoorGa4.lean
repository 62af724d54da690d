import Derived.Test.YtbdpcngcbnoioaaGreatDoorGa1
namespace Go.Proofs.YtbdpcngcbnoioaaGreatDoor
open Go.RowKit
structure Bx (g:Nat) (w w':World):Prop where
 os:w'.os=w.os
 tape:w'.tape=w.tape
 output:w'.output=w.output
 size:w.heap.size<=w'.heap.size
 block:∀ k,k<w.heap.size->k≠g->w'.heap[k]?=w.heap[k]?
theorem Bx.refl (g:Nat) (w:World):Bx g w w:=⟨rfl,rfl,rfl,Nat.le_refl _,fun _ _ _=>rfl⟩
theorem Bx.trans {g:Nat} {a b c:World} (h:Bx g a b) (k:Bx g b c):Bx g a c :=
 ⟨k.os.trans h.os,k.tape.trans h.tape,k.output.trans h.output,Nat.le_trans h.size k.size,fun i hi hg=>(k.block i (Nat.lt_of_lt_of_le hi h.size) hg).trans (h.block i hi hg)⟩
theorem Bx.alloc {g:Nat} {a w:World} (h:Bx g a w) (o:Obj):Bx g a (w.alloc o) :=
 h.trans ⟨rfl,rfl,rfl,by simp,fun _ hk _=>Below.heap_alloc _ _ _ hk⟩
theorem Bx.drew {g:Nat} {a w:World} (h:Bx g a w):Bx g a w.drew:=⟨h.os,h.tape,h.output,h.size,h.block⟩
theorem Bx.setG {g:Nat} {a w:World} (h:Bx g a w) {p:Addr} (hp:p.block=g) (u:Value):Bx g a (w.setCell p u) :=
 h.trans ⟨rfl,rfl,rfl,by simp [World.setCell],fun k _ hg=>Below.heap_setCell _ _ _ _ (by omega)⟩
theorem Bx.of_below {g:Nat} {w w':World} (h:Below w.heap.size w w'):Bx g w w':=⟨h.os,h.tape,h.output,h.size,fun k hk _=>h.block k hk⟩
theorem Bx.below {g B:Nat} {w0 w w':World} (h:Bx g w w') (h0:Below B w0 w) (hB:B<=w.heap.size) (hg:B<=g):Below B w0 w' :=
 h0.trans ⟨h.os,h.tape,h.output,h.size,fun k hk=>h.block k (by omega) (by omega)⟩
theorem Bk.keepx {g:Nat} {w w1:World} {k:Nat} {c:Array Value} {t:TypeId} (h:Bk w k c t) (hb:Bx g w w1) (hk:k≠g):Bk w1 k c t:=by
 unfold Bk;rw [hb.block k h.lt hk];exact h
theorem ret_int {k:IntKind} {a b:Int} (h:a=b):Ending.returned (.int k a)= .returned (.int k b):=by rw [h]
end Go.Proofs.YtbdpcngcbnoioaaGreatDoor
