import Derived.Test.YtbdpcngcbnoioaaDoorRows
import Derived.Handy
import Derived.WalkSpells
import Derived.WalkLawsBesides
import Derived.Deep.QuietTactic
import Derived.BigQuiet
import Derived.Orders
import Derived.Deep.DeepCutAuto
import Derived.Deep.DrawnRows
import Derived.Deep.RegionHeld3
set_option maxHeartbeats 400000
namespace Go.Proofs.YtbdpcngcbnoioaaDoor
open Go.RowKit
abbrev LI := List (Int × Int)
def Bk (w:World) (k:Nat) (c:Array Value) (t:TypeId):Prop:=w.heap[k]?=some (.cells c t (0,0))
theorem Bk.lt {w:World} {k:Nat} {c:Array Value} {t:TypeId} (h:Bk w k c t):k<w.heap.size:=lt_of_block h
theorem Bk.keep {w w1:World} {k:Nat} {c:Array Value} {t:TypeId} (h:Bk w k c t) (hb:Below w.heap.size w w1):Bk w1 k c t:=by
 unfold Bk;rw [hb.block k h.lt];exact h
theorem Bk.two {w:World} {k:Nat} {x y:Value} {t:TypeId} (h:Bk w k #[x,y] t) :
  w.cell? ⟨k,0,none⟩=some x/\w.cell? ⟨k,1,none⟩=some y/\w.frozen? ⟨k,0,none⟩=false/\w.frozen? ⟨k,1,none⟩=false:=by
 unfold Bk at h;simp [World.cell?,World.frozen?,h]
theorem Bk.new {w:World} {k:Nat} (c:Array Value) (t:TypeId) (h:k=w.heap.size):Bk (w.alloc (.cells c t)) k c t:=by
 subst h;exact heap_alloc_new w _
theorem Bk.alloc {w:World} {k:Nat} {c:Array Value} {t:TypeId} (h:Bk w k c t) (o:Obj):Bk (w.alloc o) k c t:=by
 unfold Bk;rw [Below.heap_alloc _ _ _ h.lt];exact h
theorem Bk.drew {w:World} {k:Nat} {c:Array Value} {t:TypeId} (h:Bk w k c t):Bk w.drew k c t:=h
theorem Bk.apart {w:World} {k:Nat} {c:Array Value} {t:TypeId} (h:Bk w k c t) {p:Addr} (hp:k≠p.block) (u:Value):Bk (w.setCell p u) k c t:=by
 unfold Bk;rw [Below.heap_setCell _ _ _ _ hp];exact h
theorem Bk.set {w:World} {k:Nat} {c:Array Value} {t:TypeId} (h:Bk w k c t) (i:Nat) (u:Value):Bk (w.setCell ⟨k,i,none⟩ u) k (c.setIfInBounds i u) t:=by
 have hlt:=h.lt;have h':w.heap[k]= .cells c t (0,0):=by simpa [Bk,Array.getElem?_eq_getElem hlt] using h
 show (w.heap.modify k _)[k]?=_
 rw [Array.getElem?_eq_getElem (by simpa using hlt),Array.getElem_modify_self,h']
 rfl
theorem lC {w:World} {k i:Nat} {v:Value} (h:w.cell? ⟨k,i,none⟩=some v):k<w.heap.size:=by
 rcases Nat.lt_or_ge k w.heap.size with h'|h'
 ·exact h'
 ·simp [World.cell?,Array.getElem?_eq_none h'] at h
theorem Bk.set01 {w:World} {k:Nat} {x y:Value} {t:TypeId} (h:Bk w k #[x,y] t) (u v:Value):Bk ((w.setCell ⟨k,0,none⟩ u).setCell ⟨k,1,none⟩ v) k #[u,v] t:=(h.set 0 u).set 1 v
theorem bSz {w W w1:World} (h:Below w.heap.size w W) (hb:Below W.heap.size W w1):Below w.heap.size w w1:=h.trans (hb.mono h.size)
theorem bAz {w W:World} (h:Below w.heap.size w W) (o:Obj):Below w.heap.size w (W.alloc o):=h.alloc h.size o
theorem bD {B:Nat} {a w:World} (h:Below B a w) (n:Nat):Below B a (w.drewN n):=⟨h.os,h.tape,h.output,h.size,h.block⟩
theorem boxed2 {w w1:World} {c d:Array Value} {t u:TypeId} (hb:Below ((w.alloc (.cells c t)).alloc (.cells d u)).heap.size ((w.alloc (.cells c t)).alloc (.cells d u)) w1):Bk w1 w.heap.size c t/\Bk w1 (w.heap.size+1) d u :=
 ⟨((Bk.new c t rfl).alloc _).keep hb,(Bk.new d u (by simp)).keep hb⟩
theorem rB {b c:Bool} (h:b=c):Ending.returned (.bool b)= .returned (.bool c):=by rw [h]
structure Bel (w:World) where
 ww:World
 below:Below w.heap.size w ww
theorem wB {P:Program} {id:Nat} {Q:Exit->Act->World->Prop} {a:Act} {w:World} {l:List Oper} (hm:P.follows .mixedOrders=true) (hB:Region.lexB .any l.toArray=true)
  (h:wpQuiet P l.toArray (fun w'=>∃ p:Bel w,w'=p.ww) (fun a'=>∀ w',(∃ p:Bel w,w'=p.ww)->Q .normal a' w') l a):(Code.region id l.toArray true).wp P Q a w :=
 wp_region_quiet (C:=fun w'=>∃ p:Bel w,w'=p.ww) hm hB ⟨⟨_,(Below.refl _ _).drew⟩,rfl⟩ (by simpa using h)
theorem clz {P:Program} {f:FuncId} {args:Array Value} {w:World} {p:Bel w} {v:Value}
  (h:Calls P f args p.ww fun e w'=>e= .returned v/\Below p.ww.heap.size p.ww w'):Calls P f args p.ww fun e w''=>e= .returned v/\∃ q:Bel w,w''=q.ww :=
 h.mono fun _ w' ⟨he,hb⟩=>⟨he,⟨w',bSz p.below hb⟩,rfl⟩
theorem bO {w w':World} (h:∃ p:Bel w,w'=p.ww):Below w.heap.size w w':=by
 obtain ⟨p,rfl⟩:=h;exact p.below
theorem bel_some (w:World):Nonempty (Bel w):=⟨⟨w,Below.refl _ _⟩⟩
theorem cB {w w1:World} {k i:Nat} {v:Value} (hb:Below w.heap.size w w1) (h:w.cell? ⟨k,i,none⟩=some v):w1.cell? ⟨k,i,none⟩=some v:=by
 rw [hb.cell (p:=⟨k,i,none⟩) (lC h)];exact h
def unN (L:Array Bool):Nat:=L.toList.countP (fun b=>!b)
theorem unN_set {L:Array Bool} {i:Nat} (h:L[i]?=some false):unN (L.setIfInBounds i true)+1=unN L:=by
 obtain ⟨l⟩:=L;simp only [unN,List.setIfInBounds_toArray];simp only [List.getElem?_toArray] at h
 induction l generalizing i with
 | nil=>simp at h
 | cons b l ih =>
  cases i with
  | zero=>simp at h;subst h;simp
  | succ i =>
   have:=ih (i:=i) (by simpa using h);simp only [List.set_cons_succ,List.countP_cons];omega
theorem unN_pos {L:Array Bool} {i:Nat} (h:L[i]?=some false):0<unN L:=by have:=unN_set h;omega
theorem wpAny_inv {P:Program} {md:Region.Mode} {ops:Array Oper} {Q:Exit->Act->World->Prop} (Inv:Array Bool->Act->World->Prop)
  (hg:∀ (i:Nat) (o:Oper),ops[i]?=some o->o.guard=none)
  (hs:∀ L a w,Inv L a w->L.size=ops.size)
  (hstep:∀ L a w (i:Nat) (o:Oper),Inv L a w->i∈Region.ready md ops L->ops[i]?=some o->o.wp P a w (fun a' w'=>Inv (L.setIfInBounds i true) a' w') Q)
  (hend:∀ L a w,Inv L a w->Region.ready md ops L=[]->Q .normal a w) :
  ∀ (fuel:Nat) (L:Array Bool) (a:Act) (w:World),unN L<=fuel->Inv L a w->wpAny P md ops Q fuel L a w:=by
 have hun:∀ L a w i,Inv L a w->i∈Region.ready md ops L->L[i]?=some false:=fun L a w i hI hi=>by
  obtain ⟨h1,o,ho,_⟩:=mem_ready.1 hi;have hlt:i<L.size:=by rw [hs L a w hI];exact (Array.getElem?_eq_some_iff.1 ho).1
  rw [Array.getElem?_eq_getElem hlt];simp [hlt] at h1;rw [h1]
 intro fuel
 induction fuel with
 | zero =>
  intro L a w hu hI;have he:Region.ready md ops L=[]:=by
   cases hr:Region.ready md ops L with
   | nil=>rfl
   | cons i r =>
    have:=unN_pos (hun L a w i hI (by rw [hr];simp));omega
  exact ⟨he,hend L a w hI he⟩
 | succ fuel ih =>
  intro L a w hu hI;refine ⟨fun he=>hend L a w hI he,fun i hi=>?_⟩;obtain ⟨_,o,ho,_⟩:=mem_ready.1 hi;have h1:=hstep L a w i o hI hi ho;have hw:Region.wanted o (yielded ops a.tmps)=true:=by simp [Region.wanted,hg i o ho]
  unfold wpOp;rw [ho];simp only [hw,if_true];refine .inl (Oper.wp_mono (fun a' w' hI'=>?_) h1);have:=unN_set (hun L a w i hI hi);exact ih _ a' w' (by omega) hI'
theorem unN_new (n:Nat):unN (Array.replicate n false)=n:=by
 unfold unN;rw [Array.toList_replicate,List.countP_replicate];simp
theorem wp_region_inv {P:Program} {ops:Array Oper} {Q:Exit->Act->World->Prop} {id:Nat} {a:Act} {w:World} (hm:P.follows .mixedOrders=true) (Inv:Array Bool->Act->World->Prop)
  (hg:∀ (i:Nat) (o:Oper),ops[i]?=some o->o.guard=none)
  (hs:∀ L a w,Inv L a w->L.size=ops.size)
  (h0:Inv (Array.replicate ops.size false) a w.drew)
  (hstep:∀ L a w (i:Nat) (o:Oper),Inv L a w->i∈Region.ready .any ops L->ops[i]?=some o->o.wp P a w (fun a' w'=>Inv (L.setIfInBounds i true) a' w') Q)
  (hend:∀ L a w,Inv L a w->Region.ready .any ops L=[]->Q .normal a w):(Code.region id ops true).wp P Q a w :=
 wp_region_any hm (wpAny_inv Inv hg hs hstep hend ops.size _ _ _ (by rw [unN_new];exact Nat.le_refl _) h0)
abbrev tv (a b:Int):Value:= .agg #[.int .i64 a, .int .i64 b]
def inB (n lo hi:Int):Bool:=decide (lo<=n/\n<=hi)
theorem l6In_any (n lo hi:Int) (w:World) :
  Calls Tryd.prog 38 #[.int .i64 n, .int .i64 lo, .int .i64 hi] w fun e w'=>e= .returned (.bool (inB n lo hi))/\w'=w:=by
 by_cases h1:lo<=n
 ·by_cases h2:n<=hi
  ·have e:Hid (inB n lo hi=true):=by simp [Hid,inB,h1,h2]
   go_enter Tryd.func38,Tryd.ntmps38
   go_wp2
   go_ret;exact ⟨rB e.out.symm,rfl⟩
  ·have e:Hid (inB n lo hi=false):=by simp [Hid,inB,h2]
   go_enter Tryd.func38,Tryd.ntmps38
   go_wp2
   go_ret;exact ⟨rB e.out.symm,rfl⟩
 ·have e:Hid (inB n lo hi=false):=by simp [Hid,inB,h1]
  go_enter Tryd.func38,Tryd.ntmps38
  go_wp2
  go_ret;exact ⟨rB e.out.symm,rfl⟩
attribute [local go_sem ↓] Go.wp_at_zero Go.wp_at_succ
def eqB (a b c d:Int):Bool:=decide (a=c/\b=d)
theorem eqB_self (a b:Int):eqB a b a b=true:=by simp [eqB]
theorem eqTime_any (a b c d:Int) (w:World) :
  Calls Tryd.prog 34 #[tv a b,tv c d] w fun e w'=>e= .returned (.bool (eqB a b c d))/\Below w.heap.size w w':=by
 have H:Hid (eqB a b c d=decide (a=c/\b=d)):=rfl
 by_cases h1:a=c
 ·by_cases h2:b=d
  ·subst h1;subst h2;go_enter Tryd.func34,Tryd.ntmps34
   go_wp2
   go_ret;refine ⟨rB (by rw [H.out];simp),?_⟩
   repeat' (first|(with_reducible exact Below.refl _ _)|(with_reducible assumption)|(with_reducible refine bSz ?_ (by with_reducible assumption))|(with_reducible refine bAz ?_ _)|(with_reducible refine Below.drew ?_)|(with_reducible refine bD ?_ _)|(with_reducible refine Below.setCell ?_ ?_ _)|(simp;done)|(simp;omega)|omega)
  ·subst h1;have h3:(b==d)=false:=by simpa using h2
   go_enter Tryd.func34,Tryd.ntmps34
   go_wp2
   go_ret;refine ⟨rB (by rw [H.out];simp [h2]),?_⟩
   repeat' (first|(with_reducible exact Below.refl _ _)|(with_reducible assumption)|(with_reducible refine bSz ?_ (by with_reducible assumption))|(with_reducible refine bAz ?_ _)|(with_reducible refine Below.drew ?_)|(with_reducible refine bD ?_ _)|(with_reducible refine Below.setCell ?_ ?_ _)|(simp;done)|(simp;omega)|omega)
 ·have h3:(a==c)=false:=by simpa using h1
  go_enter Tryd.func34,Tryd.ntmps34
  go_wp2
  go_ret;refine ⟨rB (by rw [H.out];simp [h1]),?_⟩
  repeat' (first|(with_reducible exact Below.refl _ _)|(with_reducible assumption)|(with_reducible refine bSz ?_ (by with_reducible assumption))|(with_reducible refine bAz ?_ _)|(with_reducible refine Below.drew ?_)|(with_reducible refine bD ?_ _)|(with_reducible refine Below.setCell ?_ ?_ _)|(simp;done)|(simp;omega)|omega)
end Go.Proofs.YtbdpcngcbnoioaaDoor
