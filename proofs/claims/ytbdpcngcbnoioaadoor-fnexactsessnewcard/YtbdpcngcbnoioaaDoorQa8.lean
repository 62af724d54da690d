import Derived.Test.YtbdpcngcbnoioaaDoorGpa
import Derived.Test.YtbdpcngcbnoioaaDoorGlk
import Derived.Test.YtbdpcngcbnoioaaDoorGqb
import Derived.Test.YtbdpcngcbnoioaaDoorGd4
import Derived.Test.YtbdpcngcbnoioaaDoorGmr
import Derived.Laws.OwnMore
namespace Go.Proofs.YtbdpcngcbnoioaaDoor
open Go.RowKit
end Go.Proofs.YtbdpcngcbnoioaaDoor
namespace Go.Proofs.YtbdpcngcbnoioaaDoor
open Go.RowKit
theorem LyR.mk2 {w:World} {g off cap:Nat} {v v':Value} {x y:List Rw} (c0:w.cell? ⟨g,off,none⟩=some v) (c1:w.cell? ⟨g,off+1,none⟩=some v') (R:Rs w v x) (R':Rs w v' y) (h1:2<=cap) (h2:cap<=maxLen):LyR w (.slice (some ⟨g,off,none⟩) 2 cap) [x,y]:=by
 have two:∀ {α:Type} {i:Nat} {p q r:α},[p,q][i]?=some r->(i=0/\p=r)\/(i=1/\q=r):=by
  intro α i p q r h
  match i,h with
  | 0,h=>exact .inl ⟨rfl,by simpa using h⟩
  | 1,h=>exact .inr ⟨rfl,by simpa using h⟩
  | i+2,h=>simp at h
 refine ⟨[v,v'],⟨some ⟨g,off,none⟩,cap,rfl,h1,h2,by simp,fun i u hi=>?_⟩,rfl,fun i u l h1 h2=>?_⟩
 ·rcases two hi with ⟨rfl,rfl⟩|⟨rfl,rfl⟩
  ·exact ⟨g,off,rfl,lC c0,fun j hj=>by obtain rfl:j=0:=(by simpa using hj);simpa using c0⟩
  ·exact ⟨g,off,rfl,lC c0,fun j hj=>by obtain rfl:j=0:=(by simpa using hj);simpa using c1⟩
 ·rcases two h1 with ⟨rfl,rfl⟩|⟨rfl,rfl⟩
  ·rcases two h2 with ⟨_,rfl⟩|⟨h,_⟩
   ·exact R
   ·cases h
  ·rcases two h2 with ⟨h,_⟩|⟨_,rfl⟩
   ·cases h
   ·exact R'
end Go.Proofs.YtbdpcngcbnoioaaDoor
namespace Go.Proofs.YtbdpcngcbnoioaaDoor
open Go.RowKit Go.Shelf
attribute [local go_sem ↓] Go.wp_at_zero Go.wp_at_succ
variable {s:SS} {A N:Nat} {a0 a2 a3:Option Addr} {c0 c2 c3:Nat} {L:Array Bool} {W W':World} {t3 t5 t6 t7 t8 t9 t10 t11 t12 t13 t14 t15 t16:Value}
end Go.Proofs.YtbdpcngcbnoioaaDoor
namespace Go.Proofs.YtbdpcngcbnoioaaDoor
open Go.RowKit Go.Shelf
attribute [local go_sem ↓] Go.wp_at_zero Go.wp_at_succ
variable {t:PT} {A N:Nat} {a0:Option Addr} {c0:Nat} {L:Array Bool} {W W':World} {t3 t8 t9 t10 t11 t12 t13:Value}
def newV (t:PT):SS:=⟨t,[[],[]],[(0,0)],[]⟩
theorem ses_new {w:World} {t:PT} {q q' cap cap':Nat} {sp v v':Value} (hk:KdS 0 w t sp) (h0:w.cell? ⟨q,0,none⟩=some v) (h1:w.cell? ⟨q,1,none⟩=some v') (hv:Rs w v []) (hv':Rs w v' []) (hc:2<=cap) (hm:cap<=maxLen) (hc':1<=cap') (hm':cap'<=maxLen) (hb:Bk w q' #[.int .i64 0, .int .i64 0] 46):Ses w sp (.slice (some ⟨q,0,none⟩) 2 cap) (.slice (some ⟨q',0,none⟩) 1 cap') nilV (newV t):=by
 refine ⟨hk,LyR.mk2 h0 (by simpa using h1) hv hv' hc hm,⟨_,cap',rfl,hc',hm',by simp [newV],fun i hi=>?_⟩,OwnR.rs (oN rowC 5 70 _ 0) (by simp [newV])⟩;obtain rfl:i=0:=by simp [newV] at hi;exact hi
 obtain ⟨e0,e1,-,-⟩:=hb.two;exact ⟨q',0,rfl,hb.lt,by simpa [newV,tA] using e0,by simpa [newV,tB] using e1⟩
end Go.Proofs.YtbdpcngcbnoioaaDoor
