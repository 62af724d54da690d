import Derived.Lib.SliceRun
import Derived.Test.YtbdpcngcbnoioaaGreatDoorGb3
namespace Go.Proofs.YtbdpcngcbnoioaaGreatDoor
open Go.RowKit
theorem leB_trans {a b c d e f:Int} (h:leB a b c d=true) (h':leB c d e f=true):leB a b e f=true:=by
 simp [leB] at *;exact ⟨⟨⟨h.1.1.1,h'.1.1.2⟩,by omega⟩,by omega⟩
theorem leB_self (a b:Int):leB a b a b=okB a b:=by simp [leB]
theorem any_at {l:LI} {x y:Int} (h:anyB l x y=true):∃ k,k<l.length/\leB (tA l k) (tB l k) x y=true:=by
 unfold anyB at h;rw [List.any_eq_true] at h;obtain ⟨k,hk,h⟩:=h;exact ⟨k,by simpa using hk,h⟩
theorem any_trans {l:LI} {x y X Y:Int} (h:anyB l x y=true) (h':leB x y X Y=true):anyB l X Y=true:=by
 obtain ⟨k,hk,h⟩:=any_at h;exact any_true hk (leB_trans h h')
theorem fok_ok {l:LI} (h:fokB l=true) {k:Nat} (hk:k<l.length):okB (tA l k) (tB l k)=true:=by
 have:=fok_at h hk;simp [stepOk] at this;exact this.1
theorem implCovers_eq {l:LI} {x y:Int} {r:Bool} (h:(fokB l&&anyB l x y)=r) {v:Value} {w:World} (ht:Ts w v l):Calls Tryz.prog 29 #[v,tv x y] w fun e w'=>e= .returned (.bool r)/\Below w.heap.size w w':=by
 rw [<- h];exact implCovers_any v l x y w ht
theorem specCovers_eq {l:LI} {x y:Int} {r:Bool} (h:(fokB l&&anyB l x y)=r) {v:Value} {w:World} (ht:Ts w v l):Calls Tryz.prog 62 #[v,tv x y] w fun e w'=>e= .returned (.bool r)/\Below w.heap.size w w':=by
 rw [<- h];exact specCovers_any v l x y w ht
theorem sQz {l:LI} {r:Bool} (h:fokB l=r) {v:Value} {w:World} (ht:Ts w v l):Calls Tryz.prog 68 #[v] w fun e w'=>e= .returned (.bool r)/\Below w.heap.size w w':=by
 rw [<- h];exact specFrontOk_any v l w ht
theorem okB_iff {a b:Int}:okB a b=true↔0<=a/\a<=7/\0<=b/\b<=7:=by simp [okB]
theorem leB_iff {a b c d:Int}:leB a b c d=true↔okB a b=true/\okB c d=true/\a<=c/\b<=d:=by simp [leB,and_assoc]
theorem jn_eq {a b c d:Int} (h:okB a b=true) (h':okB c d=true):jnA a b c d=max a c/\jnB a b c d=max b d:=by simp [jnA,jnB,h,h']
theorem jn_ok {a b c d:Int} (h:okB a b=true) (h':okB c d=true):okB (jnA a b c d) (jnB a b c d)=true:=by
 obtain ⟨e1,e2⟩:=jn_eq h h';rw [e1,e2,okB_iff];rw [okB_iff] at h h';omega
theorem leB_anti {a b c d:Int} (h:leB a b c d=true) (h':leB c d a b=true):a=c/\b=d:=by
 rw [leB_iff] at h h';omega
theorem take_of_fill {c:Array Value} {F:LI} (h:Fill c F F.length):c.toList.take (F.length*2)=cellsL F:=by
 apply List.ext_getElem?
 intro i
 by_cases hi:i<F.length*2
 ·rw [List.getElem?_take,if_pos hi,Array.getElem?_toList]
  rcases Nat.mod_two_eq_zero_or_one i with e|e
  ·obtain ⟨q,rfl⟩:∃ q,i=q*2:=⟨i / 2,by omega⟩;rw [(h q (by omega)).1,(cellsL_get F q (by omega)).1]
  ·obtain ⟨q,rfl⟩:∃ q,i=q*2+1:=⟨i / 2,by omega⟩;rw [(h q (by omega)).2,(cellsL_get F q (by omega)).2]
 ·rw [List.getElem?_take,if_neg hi,List.getElem?_eq_none (by rw [cellsL_length];omega)]
theorem own_of_fill {w:World} {B g cap:Nat} {c:Array Value} {F:LI} (h:Bk w g c 32) (hf:Fill c F F.length) (hs:c.size=cap*2) (hc:F.length<=cap) (hm:cap<=maxLen) (hg:B<=g) :
  Own w B (.slice (some ⟨g,0,none⟩) F.length cap) F :=
 ⟨cellsL_length F, .inr ⟨g,cap,c,rfl,hg,h,hc,hm,hs,take_of_fill hf⟩⟩
theorem own_open {w:World} {B:Nat} {v:Value} {l:LI} (h:Own w B v l):(v= .slice none 0 0/\l=[]) \/
  ∃ g cap c,v= .slice (some ⟨g,0,none⟩) l.length cap/\B<=g/\Bk w g c 32/\c.size=cap*2/\l.length<=cap/\cap<=maxLen/\Fill c l l.length:=by
 obtain ⟨h1,⟨rfl,h2⟩|⟨g,cap,cur,rfl,hg,hh,hc,hm,hs,ht⟩⟩:=h
 ·exact .inl ⟨rfl,List.eq_nil_of_length_eq_zero h2⟩
 ·refine .inr ⟨g,cap,cur,rfl,hg,hh,hs,hc,hm,fun i hi=>?_⟩;have e:∀ j,j<l.length*2->cur[j]?=(cellsL l)[j]?:=by
   intro j hj;rw [<- ht,List.getElem?_take,if_pos hj,Array.getElem?_toList]
  rw [e _ (by omega),e _ (by omega)];exact cellsL_get l i hi
theorem Bk.setCells {g:Nat} {t:TypeId} (vs:List Value):∀ {w:World} {c:Array Value} (o:Nat),Bk w g c t->∃ c':Array Value,Bk (w.setCells g o vs) g c' t/\c'.size=c.size/\(∀ i,i<o->c'[i]?=c[i]?)/\Bx g w (w.setCells g o vs):=by
 induction vs with
 | nil=>exact fun o h=>⟨_,h,rfl,fun _ _=>rfl,Bx.refl _ _⟩
 | cons v r ih =>
  intro w c o h;obtain ⟨c',h1,h2,h3,h4⟩:=ih (o+1) (h.set o v);refine ⟨c',h1,by rw [h2];simp,fun i hi=>?_,(Bx.setG (Bx.refl g w) rfl v).trans h4⟩;rw [h3 i (by omega),Array.getElem?_setIfInBounds,if_neg (by omega)]
def offB (x y:Int) (p:Int×Int):Bool:=!leB x y p.1 p.2
theorem cell_bk {w:World} {g:Nat} {c:Array Value} {t:TypeId} (h:Bk w g c t) {i:Nat} (hi:i<c.size):∃ y,w.cell? ⟨g,i,none⟩=some y:=⟨_,h.cell (Array.getElem?_eq_getElem hi)⟩
theorem own_lt {w:World} {B:Nat} {v:Value} {l:LI} (h:Own w B v l):∀ k,v.ownBlock=some k->k<w.heap.size:=by
 intro k hk
 rcases own_open h with ⟨rfl,_⟩|⟨g,cap,c,rfl,_,hb,_⟩
 ·cases hk
 ·have:g=k:=by simpa [Value.ownBlock] using hk
  subst this;exact hb.lt
def earlStep (acc:LI) (p:Int×Int):LI:=if anyB acc p.1 p.2 then acc else acc.filter (offB p.1 p.2)++[p]
def earlTo (l:LI) (k:Nat):LI:=(l.take k).foldl earlStep []
theorem tA_set (L:LI) {i:Nat} (hi:i<L.length) (p:Int×Int) (k:Nat):tA (L.set i p) k=if i=k then p.1 else tA L k:=by
 unfold tA;rw [List.getD_eq_getElem?_getD,List.getElem?_set]
 by_cases h:i=k
 ·subst h;simp [hi]
 ·simp [h]
theorem tB_set (L:LI) {i:Nat} (hi:i<L.length) (p:Int×Int) (k:Nat):tB (L.set i p) k=if i=k then p.2 else tB L k:=by
 unfold tB;rw [List.getD_eq_getElem?_getD,List.getElem?_set]
 by_cases h:i=k
 ·subst h;simp [hi]
 ·simp [h]
theorem Fill.set {c:Array Value} {L:LI} {n i:Nat} (h:Fill c L n) (hi:i<n) (hn:n=L.length) (hs:n*2<=c.size) (X Y:Int) :
  Fill ((c.setIfInBounds (i*2) (.int .i64 X)).setIfInBounds (i*2+1) (.int .i64 Y)) (L.set i (X,Y)) n:=by
 intro k hk;rw [tA_set L (by omega),tB_set L (by omega)]
 by_cases e:i=k
 ·subst e;rw [if_pos rfl,if_pos rfl];have n2:i*2<c.size:=by omega
  have n3:i*2+1<c.size:=by omega
  simp [n2,n3]
 ·rw [if_neg e,if_neg e];have n1:¬ i*2+1=k*2:=by omega
  have n2:¬ i*2=k*2:=by omega
  have n3:¬ i*2+1=k*2+1:=by omega
  have n4:¬ i*2=k*2+1:=by omega
  simp only [Array.getElem?_setIfInBounds,n1,n2,n3,n4,if_false];exact h k hk
end Go.Proofs.YtbdpcngcbnoioaaGreatDoor
