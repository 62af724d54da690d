import Derived.Test.YtbdpcngcbnoioaaGreatDoorRows
import Derived.Handy
import Derived.WalkSpells
import Derived.WalkLawsBesides
import Derived.Deep.QuietTactic
import Derived.BigQuiet
import Derived.Orders
import Derived.Deep.DeepCutAuto
import Derived.Deep.DrawnRows
import Derived.Deep.RegionHeld3
set_option maxHeartbeats 1000000
namespace Go.Proofs.YtbdpcngcbnoioaaGreatDoor
open Go.RowKit
abbrev LI := List (Int × Int)
def Bk (w:World) (k:Nat) (c:Array Value) (t:TypeId):Prop:=w.heap[k]?=some (.cells c t (0,0))
theorem Bk.lt {w:World} {k:Nat} {c:Array Value} {t:TypeId} (h:Bk w k c t):k<w.heap.size:=lt_of_block h
theorem Bk.keep {w w1:World} {k:Nat} {c:Array Value} {t:TypeId} (h:Bk w k c t) (hb:Below w.heap.size w w1):Bk w1 k c t:=by
 unfold Bk;rw [hb.block k h.lt];exact h
theorem Bk.two {w:World} {k:Nat} {x y:Value} {t:TypeId} (h:Bk w k #[x,y] t) :
  w.cell? ⟨k,0,none⟩=some x/\w.cell? ⟨k,1,none⟩=some y/\w.frozen? ⟨k,0,none⟩=false/\w.frozen? ⟨k,1,none⟩=false:=by
 unfold Bk at h;simp [World.cell?,World.frozen?,h]
theorem Bk.new {w:World} {k:Nat} (c:Array Value) (t:TypeId) (h:k=w.heap.size):Bk (w.alloc (.cells c t)) k c t:=by
 subst h;exact heap_alloc_new w _
theorem Bk.alloc {w:World} {k:Nat} {c:Array Value} {t:TypeId} (h:Bk w k c t) (o:Obj):Bk (w.alloc o) k c t:=by
 unfold Bk;rw [Below.heap_alloc _ _ _ h.lt];exact h
theorem Bk.drew {w:World} {k:Nat} {c:Array Value} {t:TypeId} (h:Bk w k c t):Bk w.drew k c t:=h
theorem Bk.apart {w:World} {k:Nat} {c:Array Value} {t:TypeId} (h:Bk w k c t) {p:Addr} (hp:k≠p.block) (u:Value):Bk (w.setCell p u) k c t:=by
 unfold Bk;rw [Below.heap_setCell _ _ _ _ hp];exact h
theorem Bk.set {w:World} {k:Nat} {c:Array Value} {t:TypeId} (h:Bk w k c t) (i:Nat) (u:Value):Bk (w.setCell ⟨k,i,none⟩ u) k (c.setIfInBounds i u) t:=by
 have hlt:=h.lt;have h':w.heap[k]= .cells c t (0,0):=by simpa [Bk,Array.getElem?_eq_getElem hlt] using h
 show (w.heap.modify k _)[k]?=_
 rw [Array.getElem?_eq_getElem (by simpa using hlt),Array.getElem_modify_self,h']
 rfl
theorem lC {w:World} {k i:Nat} {v:Value} (h:w.cell? ⟨k,i,none⟩=some v):k<w.heap.size:=by
 rcases Nat.lt_or_ge k w.heap.size with h'|h'
 ·exact h'
 ·simp [World.cell?,Array.getElem?_eq_none h'] at h
theorem cell_drew {w:World} {a:Addr} {v:Value} (h:w.cell? a=some v):w.drew.cell? a=some v:=h
theorem cell_alloc {w:World} {k i:Nat} {v:Value} (h:w.cell? ⟨k,i,none⟩=some v) {o:Obj}:(w.alloc o).cell? ⟨k,i,none⟩=some v:=by
 rw [World.cell?_alloc_past _ _ _ (lC h)];exact h
theorem cell_apart {w:World} {k i:Nat} {v u:Value} {p:Addr} (h:w.cell? ⟨k,i,none⟩=some v) (hp:k≠p.block):(w.setCell p u).cell? ⟨k,i,none⟩=some v:=by
 rw [World.cell?_of_block (w:=w) (Below.heap_setCell _ _ _ _ hp)];exact h
theorem Bk.set01 {w:World} {k:Nat} {x y:Value} {t:TypeId} (h:Bk w k #[x,y] t) (u v:Value):Bk ((w.setCell ⟨k,0,none⟩ u).setCell ⟨k,1,none⟩ v) k #[u,v] t:=(h.set 0 u).set 1 v
theorem set1a {w:World} {k:Nat} {x y:Value} {t:TypeId} (h:Bk w k #[x,y] t) (u:Value):(w.setCell ⟨k,0,none⟩ u).cell? ⟨k,0,none⟩=some u:=(h.set 0 u).two.1
theorem set2b {w:World} {k:Nat} {x y:Value} {t:TypeId} (h:Bk w k #[x,y] t) (u v:Value):((w.setCell ⟨k,0,none⟩ u).setCell ⟨k,1,none⟩ v).cell? ⟨k,1,none⟩=some v:=((h.set 0 u).set 1 v).two.2.1
theorem bSz {w W w1:World} (h:Below w.heap.size w W) (hb:Below W.heap.size W w1):Below w.heap.size w w1:=h.trans (hb.mono h.size)
theorem bAz {w W:World} (h:Below w.heap.size w W) (o:Obj):Below w.heap.size w (W.alloc o):=h.alloc h.size o
theorem bDz {B:Nat} {a w:World} (h:Below B a w) (n:Nat):Below B a (w.drewN n):=⟨h.os,h.tape,h.output,h.size,h.block⟩
theorem ret_tv {a b c d:Int} (h1:a=c) (h2:b=d):Ending.returned (.agg #[.int .i64 a, .int .i64 b])= .returned (.agg #[.int .i64 c, .int .i64 d]):=by rw [h1,h2]
theorem boxed2 {w w1:World} {c d:Array Value} {t u:TypeId} (hb:Below ((w.alloc (.cells c t)).alloc (.cells d u)).heap.size ((w.alloc (.cells c t)).alloc (.cells d u)) w1):Bk w1 w.heap.size c t/\Bk w1 (w.heap.size+1) d u :=
 ⟨((Bk.new c t rfl).alloc _).keep hb,(Bk.new d u (by simp)).keep hb⟩
theorem boxed3 {w w1:World} {c d f:Array Value} {t u v:TypeId} (hb:Below (((w.alloc (.cells c t)).alloc (.cells d u)).alloc (.cells f v)).heap.size (((w.alloc (.cells c t)).alloc (.cells d u)).alloc (.cells f v)) w1):Bk w1 w.heap.size c t/\Bk w1 (w.heap.size+1) d u/\Bk w1 (w.heap.size+1+1) f v :=
 ⟨(((Bk.new c t rfl).alloc _).alloc _).keep hb,((Bk.new d u (by simp)).alloc _).keep hb,(Bk.new f v (by simp)).keep hb⟩
theorem rB {b c:Bool} (h:b=c):Ending.returned (.bool b)= .returned (.bool c):=by rw [h]
structure Bel (w:World) where
 ww:World
 below:Below w.heap.size w ww
theorem wBz {P:Program} {id:Nat} {Q:Exit->Act->World->Prop} {a:Act} {w:World} {l:List Oper} (hm:P.follows .mixedOrders=true) (hB:Region.lexB .any l.toArray=true)
  (h:wpQuiet P l.toArray (fun w'=>∃ p:Bel w,w'=p.ww) (fun a'=>∀ w',(∃ p:Bel w,w'=p.ww)->Q .normal a' w') l a):(Code.region id l.toArray true).wp P Q a w :=
 wp_region_quiet (C:=fun w'=>∃ p:Bel w,w'=p.ww) hm hB ⟨⟨_,(Below.refl _ _).drew⟩,rfl⟩ (by simpa using h)
theorem clz {P:Program} {f:FuncId} {args:Array Value} {w:World} {p:Bel w} {v:Value}
  (h:Calls P f args p.ww fun e w'=>e= .returned v/\Below p.ww.heap.size p.ww w'):Calls P f args p.ww fun e w''=>e= .returned v/\∃ q:Bel w,w''=q.ww :=
 h.mono fun _ w' ⟨he,hb⟩=>⟨he,⟨w',bSz p.below hb⟩,rfl⟩
theorem bOz {w w':World} (h:∃ p:Bel w,w'=p.ww):Below w.heap.size w w':=by
 obtain ⟨p,rfl⟩:=h;exact p.below
theorem bel_some (w:World):Nonempty (Bel w):=⟨⟨w,Below.refl _ _⟩⟩
theorem Bk.bel0 {w:World} {k:Nat} {x y:Value} {t:TypeId} (h:Bk w k #[x,y] t) (p:Bel w):p.ww.cell? ⟨k,0,none⟩=some x:=(h.keep p.below).two.1
theorem Bk.bel1 {w:World} {k:Nat} {x y:Value} {t:TypeId} (h:Bk w k #[x,y] t) (p:Bel w):p.ww.cell? ⟨k,1,none⟩=some y:=(h.keep p.below).two.2.1
theorem cB {w w1:World} {k i:Nat} {v:Value} (hb:Below w.heap.size w w1) (h:w.cell? ⟨k,i,none⟩=some v):w1.cell? ⟨k,i,none⟩=some v:=by
 rw [hb.cell (p:=⟨k,i,none⟩) (lC h)];exact h
def unN (L:Array Bool):Nat:=L.toList.countP (fun b=>!b)
theorem unN_set {L:Array Bool} {i:Nat} (h:L[i]?=some false):unN (L.setIfInBounds i true)+1=unN L:=by
 obtain ⟨l⟩:=L;simp only [unN,List.setIfInBounds_toArray];simp only [List.getElem?_toArray] at h
 induction l generalizing i with
 | nil=>simp at h
 | cons b l ih =>
  cases i with
  | zero=>simp at h;subst h;simp
  | succ i =>
   have:=ih (i:=i) (by simpa using h);simp only [List.set_cons_succ,List.countP_cons];omega
theorem unN_pos {L:Array Bool} {i:Nat} (h:L[i]?=some false):0<unN L:=by have:=unN_set h;omega
theorem wpAny_inv {P:Program} {md:Region.Mode} {ops:Array Oper} {Q:Exit->Act->World->Prop} (Inv:Array Bool->Act->World->Prop)
  (hg:∀ (i:Nat) (o:Oper),ops[i]?=some o->o.guard=none)
  (hs:∀ L a w,Inv L a w->L.size=ops.size)
  (hstep:∀ L a w (i:Nat) (o:Oper),Inv L a w->i∈Region.ready md ops L->ops[i]?=some o->o.wp P a w (fun a' w'=>Inv (L.setIfInBounds i true) a' w') Q)
  (hend:∀ L a w,Inv L a w->Region.ready md ops L=[]->Q .normal a w) :
  ∀ (fuel:Nat) (L:Array Bool) (a:Act) (w:World),unN L<=fuel->Inv L a w->wpAny P md ops Q fuel L a w:=by
 have hun:∀ L a w i,Inv L a w->i∈Region.ready md ops L->L[i]?=some false:=fun L a w i hI hi=>by
  obtain ⟨h1,o,ho,_⟩:=mem_ready.1 hi;have hlt:i<L.size:=by rw [hs L a w hI];exact (Array.getElem?_eq_some_iff.1 ho).1
  rw [Array.getElem?_eq_getElem hlt];simp [hlt] at h1;rw [h1]
 intro fuel
 induction fuel with
 | zero =>
  intro L a w hu hI;have he:Region.ready md ops L=[]:=by
   cases hr:Region.ready md ops L with
   | nil=>rfl
   | cons i r =>
    have:=unN_pos (hun L a w i hI (by rw [hr];simp));omega
  exact ⟨he,hend L a w hI he⟩
 | succ fuel ih =>
  intro L a w hu hI;refine ⟨fun he=>hend L a w hI he,fun i hi=>?_⟩;obtain ⟨_,o,ho,_⟩:=mem_ready.1 hi;have h1:=hstep L a w i o hI hi ho;have hw:Region.wanted o (yielded ops a.tmps)=true:=by simp [Region.wanted,hg i o ho]
  unfold wpOp;rw [ho];simp only [hw,if_true];refine .inl (Oper.wp_mono (fun a' w' hI'=>?_) h1);have:=unN_set (hun L a w i hI hi);exact ih _ a' w' (by omega) hI'
theorem unN_new (n:Nat):unN (Array.replicate n false)=n:=by
 unfold unN;rw [Array.toList_replicate,List.countP_replicate];simp
theorem wp_region_inv {P:Program} {ops:Array Oper} {Q:Exit->Act->World->Prop} {id:Nat} {a:Act} {w:World} (hm:P.follows .mixedOrders=true) (Inv:Array Bool->Act->World->Prop)
  (hg:∀ (i:Nat) (o:Oper),ops[i]?=some o->o.guard=none)
  (hs:∀ L a w,Inv L a w->L.size=ops.size)
  (h0:Inv (Array.replicate ops.size false) a w.drew)
  (hstep:∀ L a w (i:Nat) (o:Oper),Inv L a w->i∈Region.ready .any ops L->ops[i]?=some o->o.wp P a w (fun a' w'=>Inv (L.setIfInBounds i true) a' w') Q)
  (hend:∀ L a w,Inv L a w->Region.ready .any ops L=[]->Q .normal a w):(Code.region id ops true).wp P Q a w :=
 wp_region_any hm (wpAny_inv Inv hg hs hstep hend ops.size _ _ _ (by rw [unN_new];exact Nat.le_refl _) h0)
section
variable {K:Type}
def tot [DecidableEq K]:List (K×Int)->K->Int
 | [],_=>0
 | r::l,s=>(if r.1=s then r.2 else 0)+tot l s
def wsum (g:K->Int):List (K×Int)->Int
 | []=>0
 | r::l=>r.2*g r.1+wsum g l
theorem tot_append [DecidableEq K] (l m:List (K×Int)) (s:K):tot (l++m) s=tot l s+tot m s:=by
 induction l with
 | nil=>simp [tot]
 | cons r l ih=>simp only [List.cons_append,tot,ih];omega
theorem tot_snoc [DecidableEq K] (l:List (K×Int)) (r:K×Int) (s:K):tot (l++[r]) s=tot l s+(if r.1=s then r.2 else 0):=by
 rw [tot_append];simp [tot]
theorem tot_perm [DecidableEq K] {l m:List (K×Int)} (h:l.Perm m) (s:K):tot l s=tot m s:=by
 induction h with
 | nil=>rfl
 | cons x _ ih=>simp only [tot,ih]
 | swap x y l=>simp only [tot];omega
 | trans _ _ h1 h2=>rw [h1,h2]
theorem tot_of_not [DecidableEq K] {l:List (K×Int)} {s:K} (h:∀ r∈l,r.1≠s):tot l s=0:=by
 induction l with
 | nil=>rfl
 | cons r l ih =>
  simp only [tot];rw [if_neg (h r (by simp)),ih (fun q hq=>h q (by simp [hq]))];rfl
theorem wsum_append (g:K->Int) (l m:List (K×Int)):wsum g (l++m)=wsum g l+wsum g m:=by
 induction l with
 | nil=>simp [wsum]
 | cons r l ih=>simp only [List.cons_append,wsum,ih];omega
theorem tot_neg [DecidableEq K] (l:List (K×Int)) (s:K):tot (l.map fun r=>(r.1,-r.2)) s =-tot l s:=by
 induction l with
 | nil=>rfl
 | cons r l ih=>simp only [List.map_cons,tot,ih];split<;>omega
structure Ord (lt:K->K->Bool):Prop where
 irr:∀ a,lt a a=false
 trans:∀ a b c,lt a b=true->lt b c=true->lt a c=true
 tri:∀ a b,lt a b=false->lt b a=false->a=b
variable {lt:K->K->Bool}
def Srt (lt:K->K->Bool) (l:List (K×Int)):Prop:=l.Pairwise fun p q=>lt p.1 q.1=true
def Nz (l:List (K×Int)):Prop:=∀ r∈l,r.2≠0
def putL (lt:K->K->Bool) (r:K×Int):List (K×Int)->List (K×Int)
 | []=>[r]
 | x::l=>if lt r.1 x.1 then r::x::l else if lt x.1 r.1 then x::putL lt r l else (r.1,r.2+x.2)::l
theorem putL_tot [DecidableEq K] (O:Ord lt) (r:K×Int) (l:List (K×Int)) (s:K):tot (putL lt r l) s=tot l s+(if r.1=s then r.2 else 0):=by
 induction l with
 | nil=>simp [putL,tot]
 | cons x l ih =>
  unfold putL
  by_cases h1:lt r.1 x.1=true
  ·rw [if_pos h1];simp only [tot];omega
  ·rw [if_neg h1]
   by_cases h2:lt x.1 r.1=true
   ·rw [if_pos h2];simp only [tot,ih];omega
   ·rw [if_neg h2];have e:r.1=x.1:=O.tri _ _ (by simpa using h1) (by simpa using h2);simp only [tot,e];split<;>omega
theorem putL_mem {r:K×Int} {l:List (K×Int)} {q:K×Int} (h:q∈putL lt r l):q.1=r.1\/q∈l:=by
 induction l with
 | nil=>simp [putL] at h;exact .inl (by rw [h])
 | cons x l ih =>
  unfold putL at h
  by_cases h1:lt r.1 x.1=true
  ·rw [if_pos h1] at h
   rcases List.mem_cons.1 h with rfl|h
   ·exact .inl rfl
   ·exact .inr h
  ·rw [if_neg h1] at h
   by_cases h2:lt x.1 r.1=true
   ·rw [if_pos h2] at h
    rcases List.mem_cons.1 h with rfl|h
    ·exact .inr (by simp)
    ·rcases ih h with h|h
     ·exact .inl h
     ·exact .inr (by simp [h])
   ·rw [if_neg h2] at h
    rcases List.mem_cons.1 h with rfl|h
    ·exact .inl rfl
    ·exact .inr (by simp [h])
theorem putL_srt (O:Ord lt) {r:K×Int} {l:List (K×Int)} (h:Srt lt l):Srt lt (putL lt r l):=by
 induction l with
 | nil=>simp [putL,Srt]
 | cons x l ih =>
  obtain ⟨hx,hl⟩:=List.pairwise_cons.1 h;unfold putL
  by_cases h1:lt r.1 x.1=true
  ·rw [if_pos h1];refine List.pairwise_cons.2 ⟨fun q hq=>?_,h⟩
   rcases List.mem_cons.1 hq with rfl|hq
   ·exact h1
   ·exact O.trans _ _ _ h1 (hx q hq)
  ·rw [if_neg h1]
   by_cases h2:lt x.1 r.1=true
   ·rw [if_pos h2];refine List.pairwise_cons.2 ⟨fun q hq=>?_,ih hl⟩
    rcases putL_mem hq with e|hq
    ·rw [e];exact h2
    ·exact hx q hq
   ·rw [if_neg h2];have e:r.1=x.1:=O.tri _ _ (by simpa using h1) (by simpa using h2);refine List.pairwise_cons.2 ⟨fun q hq=>?_,hl⟩
    show lt r.1 q.1=true
    rw [e];exact hx q hq
theorem putL_len (lt:K->K->Bool) (r:K×Int) (l:List (K×Int)):(putL lt r l).length<=l.length+1:=by
 induction l with
 | nil=>simp [putL]
 | cons x l ih =>
  unfold putL
  by_cases h1:lt r.1 x.1=true
  ·rw [if_pos h1];simp
  ·rw [if_neg h1]
   by_cases h2:lt x.1 r.1=true
   ·rw [if_pos h2];simp;omega
   ·rw [if_neg h2];simp
def sumA (lt:K->K->Bool) (l:List (K×Int)):List (K×Int):=l.foldl (fun m r=>putL lt r m) []
theorem sumA_snoc (lt:K->K->Bool) (l:List (K×Int)) (r:K×Int):sumA lt (l++[r])=putL lt r (sumA lt l):=by
 unfold sumA;rw [List.foldl_append];rfl
theorem snoc_ind {A:Type} {p:List A->Prop} (h0:p []) (h1:∀ l r,p l->p (l++[r])) (l:List A):p l:=by
 have:∀ m:List A,p m.reverse:=fun m=>by
  induction m with
  | nil=>exact h0
  | cons x m ih=>rw [List.reverse_cons];exact h1 _ _ ih
 have:=this l.reverse
 rwa [List.reverse_reverse] at this
theorem sumA_tot [DecidableEq K] (O:Ord lt) (l:List (K×Int)) (s:K):tot (sumA lt l) s=tot l s:=by
 induction l using snoc_ind with
 | h0=>rfl
 | h1 l r ih=>rw [sumA_snoc,putL_tot O,ih,tot_snoc]
theorem sumA_srt (O:Ord lt) (l:List (K×Int)):Srt lt (sumA lt l):=by
 induction l using snoc_ind with
 | h0=>simp [sumA,Srt]
 | h1 l r ih=>rw [sumA_snoc];exact putL_srt O ih
theorem sumA_len (lt:K->K->Bool) (l:List (K×Int)):(sumA lt l).length<=l.length:=by
 induction l using snoc_ind with
 | h0=>simp [sumA]
 | h1 l r ih=>rw [sumA_snoc];have:=putL_len lt r (sumA lt l);simp;omega
theorem sumA_key {l:List (K×Int)} {q:K×Int} (h:q∈sumA lt l):∃ r∈l,r.1=q.1:=by
 induction l using snoc_ind generalizing q with
 | h0=>simp [sumA] at h
 | h1 l r ih =>
  rw [sumA_snoc] at h
  rcases putL_mem h with e|h
  ·exact ⟨r,by simp,e.symm⟩
  ·obtain ⟨r',h1,h2⟩:=ih h;exact ⟨r',by simp [h1],h2⟩
def sumL (lt:K->K->Bool) (l:List (K×Int)):List (K×Int):=(sumA lt l).filter fun r=>decide (r.2≠0)
theorem filter_nz_tot [DecidableEq K] (l:List (K×Int)) (s:K):tot (l.filter fun r=>decide (r.2≠0)) s=tot l s:=by
 induction l with
 | nil=>rfl
 | cons r l ih =>
  rw [List.filter_cons]
  by_cases h:r.2=0
  ·simp [h,tot];simpa using ih
  ·simp [h,tot];simpa using ih
theorem sumL_tot [DecidableEq K] (O:Ord lt) (l:List (K×Int)) (s:K):tot (sumL lt l) s=tot l s:=by
 unfold sumL;rw [filter_nz_tot,sumA_tot O]
theorem sumL_srt (O:Ord lt) (l:List (K×Int)):Srt lt (sumL lt l):=(sumA_srt O l).filter _
theorem sumL_nz (lt:K->K->Bool) (l:List (K×Int)):Nz (sumL lt l):=fun r hr=>by
 have:=(List.mem_filter.1 hr).2;simpa using this
theorem sumL_len (lt:K->K->Bool) (l:List (K×Int)):(sumL lt l).length<=l.length :=
 Nat.le_trans (List.length_filter_le _ _) (sumA_len lt l)
theorem sumL_key {l:List (K×Int)} {q:K×Int} (h:q∈sumL lt l):∃ r∈l,r.1=q.1:=sumA_key (List.mem_filter.1 h).1
theorem srt_tot [DecidableEq K] (O:Ord lt) {l:List (K×Int)} (h:Srt lt l) {r:K×Int} (hr:r∈l):tot l r.1=r.2:=by
 induction l with
 | nil=>simp at hr
 | cons x l ih =>
  obtain ⟨hx,hl⟩:=List.pairwise_cons.1 h;simp only [tot]
  rcases List.mem_cons.1 hr with rfl|hr
  ·rw [if_pos rfl,tot_of_not (fun q hq e=>by have:=hx q hq;rw [e,O.irr] at this;cases this)];omega
  ·rw [if_neg (fun e=>by have:=hx r hr;rw [e,O.irr] at this;cases this),ih hl hr];omega
theorem srt_mem [DecidableEq K] (O:Ord lt) {l:List (K×Int)} (h:Srt lt l) (hn:Nz l) (r:K×Int):r∈l↔r.2≠0/\tot l r.1=r.2:=by
 constructor
 ·exact fun hr=>⟨hn r hr,srt_tot O h hr⟩
 ·rintro ⟨h0,h1⟩
  by_cases hx:∃ q∈l,q.1=r.1
  ·obtain ⟨q,hq,e⟩:=hx;have:=srt_tot O h hq;rw [e] at this;obtain rfl:q=r:=Prod.ext e (by omega);exact hq
  ·exact absurd (tot_of_not fun q hq e=>hx ⟨q,hq,e⟩) (by omega)
theorem srt_ext (O:Ord lt):∀ {l m:List (K×Int)},Srt lt l->Srt lt m->(∀ r,r∈l↔r∈m)->l=m
 | [],[],_,_,_=>rfl
 | [],y::m,_,_,h=>by have:=(h y).2 (by simp);simp at this
 | x::l,[],_,_,h=>by have:=(h x).1 (by simp);simp at this
 | x::l,y::m,hl,hm,h=>by
  obtain ⟨hx,hl'⟩:=List.pairwise_cons.1 hl;obtain ⟨hy,hm'⟩:=List.pairwise_cons.1 hm;have ne:∀ {a b:K×Int},lt a.1 b.1=true->a≠b:=fun {a b} h e=>by rw [e,O.irr] at h;cases h
  have e:x=y:=by
   rcases List.mem_cons.1 ((h x).1 (by simp)) with e|hxm
   ·exact e
   ·rcases List.mem_cons.1 ((h y).2 (by simp)) with e|hyl
    ·exact e.symm
    ·exact absurd rfl (ne (O.trans _ _ _ (hx y hyl) (hy x hxm)))
  subst e
  congr 1
  refine srt_ext O hl' hm' fun r=>⟨fun hr=>?_,fun hr=>?_⟩
  ·rcases List.mem_cons.1 ((h r).1 (by simp [hr])) with e|h'
   ·exact absurd e.symm (ne (hx r hr))
   ·exact h'
  ·rcases List.mem_cons.1 ((h r).2 (by simp [hr])) with e|h'
   ·exact absurd e.symm (ne (hy r hr))
   ·exact h'
theorem sumL_uniq [DecidableEq K] (O:Ord lt) {l m:List (K×Int)} (hs:Srt lt m) (hn:Nz m) (h:∀ s,tot m s=tot l s):m=sumL lt l :=
 srt_ext O hs (sumL_srt O l) fun r=>by
  rw [srt_mem O hs hn,srt_mem O (sumL_srt O l) (sumL_nz lt l),h,sumL_tot O]
theorem sumL_congr [DecidableEq K] (O:Ord lt) {l m:List (K×Int)} (h:∀ s,tot l s=tot m s):sumL lt l=sumL lt m :=
 sumL_uniq O (sumL_srt O l) (sumL_nz lt l) fun s=>by rw [sumL_tot O,h]
theorem sumL_self [DecidableEq K] (O:Ord lt) {l:List (K×Int)} (hs:Srt lt l) (hn:Nz l):sumL lt l=l:=(sumL_uniq O hs hn fun _=>rfl).symm
def absum:List (K×Int)->Int
 | []=>0
 | r::l=>r.2.natAbs+absum l
theorem absum_pos (l:List (K×Int)):0<=absum l:=by
 induction l with
 | nil=>simp [absum]
 | cons r l ih=>simp only [absum];omega
theorem absum_append (l m:List (K×Int)):absum (l++m)=absum l+absum m:=by
 induction l with
 | nil=>simp [absum]
 | cons r l ih=>simp only [List.cons_append,absum,ih];omega
theorem tot_abs [DecidableEq K] (l:List (K×Int)) (s:K) : -absum l<=tot l s/\tot l s<=absum l:=by
 induction l with
 | nil=>simp [absum,tot]
 | cons r l ih=>have:=absum_pos l;simp only [absum,tot];split<;>omega
theorem absum_le {l:List (K×Int)} {c:Int} (h:∀ r∈l,-c<=r.2/\r.2<=c):absum l<=c*l.length:=by
 induction l with
 | nil=>simp [absum]
 | cons r l ih =>
  have h1:=h r (by simp);have h2:=ih fun q hq=>h q (by simp [hq]);simp only [absum,List.length_cons];have:c*((l.length+1:Nat):Int)=c*l.length+c:=by rw [Int.natCast_add,Int.mul_add];simp
  omega
theorem sumL_abs [DecidableEq K] (O:Ord lt) {l:List (K×Int)} {r:K×Int} (h:r∈sumL lt l) : -absum l<=r.2/\r.2<=absum l:=by
 have:=srt_tot O (sumL_srt O l) h;rw [sumL_tot O] at this;have:=tot_abs l r.1;omega
end
abbrev tv (a b:Int):Value:= .agg #[.int .i64 a, .int .i64 b]
def inB (n lo hi:Int):Bool:=decide (lo<=n/\n<=hi)
def okB (a b:Int):Bool:=decide (0<=a/\a<=7/\0<=b/\b<=7)
theorem okB_eq (a b:Int):okB a b=(inB a 0 7&&inB b 0 7):=by unfold okB inB;rw [Bool.eq_iff_iff];simp;omega
theorem l6In_any (n lo hi:Int) (w:World) :
  Calls Tryz.prog 132 #[.int .i64 n, .int .i64 lo, .int .i64 hi] w fun e w'=>e= .returned (.bool (inB n lo hi))/\w'=w:=by
 by_cases h1:lo<=n
 ·by_cases h2:n<=hi
  ·have e:Hid (inB n lo hi=true):=by simp [Hid,inB,h1,h2]
   go_enter Tryz.func132,Tryz.ntmps132
   go_wp2
   go_ret;exact ⟨rB e.out.symm,rfl⟩
  ·have e:Hid (inB n lo hi=false):=by simp [Hid,inB,h2]
   go_enter Tryz.func132,Tryz.ntmps132
   go_wp2
   go_ret;exact ⟨rB e.out.symm,rfl⟩
 ·have e:Hid (inB n lo hi=false):=by simp [Hid,inB,h1]
  go_enter Tryz.func132,Tryz.ntmps132
  go_wp2
  go_ret;exact ⟨rB e.out.symm,rfl⟩
theorem numbersOf_any (a b:Int) (w:World) :
  Calls Tryz.prog 135 #[tv a b] w fun e w'=>e= .returned (tv a b)/\w'=(w.alloc (.cells #[.int .i64 a, .int .i64 b] 32)).alloc (.cells #[.int .i64 a, .int .i64 b] 154):=by
 go_enter Tryz.func135,Tryz.ntmps135
 go_wp2
 go_returns
 exact ⟨rfl,rfl⟩
theorem timeOf_any (a b:Int) (w:World) :
  Calls Tryz.prog 168 #[tv a b] w fun e w'=>e= .returned (tv a b)/\Below w.heap.size w w':=by
 go_enter Tryz.func168,Tryz.ntmps168
 go_wp2
 go_returns
 refine ⟨rfl,?_⟩
 go_grown
theorem specOk_any (a b:Int) (w:World) :
  Calls Tryz.prog 65 #[tv a b] w fun e w'=>e= .returned (.bool (okB a b))/\Below w.heap.size w w':=by
 rw [okB_eq];go_enter Tryz.func65,Tryz.ntmps65;cases ha:inB a 0 7
 ·go_wp2_with (go_at_call 132;refine (l6In_any _ _ _ _).mono ?_;rintro e w' ⟨rfl,rfl⟩)
  go_ret;refine ⟨rfl,?_⟩
  go_grown
 ·go_wp2_with (go_at_call 132;refine (l6In_any _ _ _ _).mono ?_;rintro e w' ⟨rfl,rfl⟩)
  go_ret;refine ⟨rfl,?_⟩
  go_grown
theorem index40 (a b:Int):(∀ w:World,(Instr.index 154 (.agg #[.int .i64 a, .int .i64 b]) (.int .i64 0)).run Tryz.prog w= .ok (.int .i64 a) w)/\(∀ w:World,(Instr.index 154 (.agg #[.int .i64 a, .int .i64 b]) (.int .i64 1)).run Tryz.prog w= .ok (.int .i64 b) w) :=
 ⟨fun _=>by kernel_rfl,fun _=>by kernel_rfl⟩
theorem implOk_any (a b:Int) (w:World) :
  Calls Tryz.prog 67 #[tv a b] w fun e w'=>e= .returned (.bool (okB a b))/\Below w.heap.size w w':=by
 obtain ⟨i0,i1⟩:=index40 a b;have H:Hid (okB a b=decide (0<=a/\a<=7/\0<=b/\b<=7)):=rfl
 by_cases h1:0<=a
 ·by_cases h2:a<=7
  ·by_cases h3:0<=b
   ·by_cases h4:b<=7
    all_goals
     go_enter Tryz.func67,Tryz.ntmps67
     go_wp2
     go_rounds 3
     go_returns
     refine ⟨rB (by rw [H.out];simp;omega),?_⟩
     go_grown
   ·go_enter Tryz.func67,Tryz.ntmps67
    go_wp2
    go_rounds 3
    go_returns
    refine ⟨rB (by rw [H.out];simp;omega),?_⟩
    go_grown
  ·go_enter Tryz.func67,Tryz.ntmps67
   go_wp2
   go_rounds 3
   go_returns
   refine ⟨rB (by rw [H.out];simp;omega),?_⟩
   go_grown
 ·go_enter Tryz.func67,Tryz.ntmps67
  go_wp2
  go_rounds 3
  go_returns
  refine ⟨rB (by rw [H.out];simp;omega),?_⟩
  go_grown
attribute [local go_sem ↓] Go.wp_at_zero Go.wp_at_succ
def leB (a b c d:Int):Bool:=okB a b&&okB c d&&decide (a<=c)&&decide (b<=d)
theorem specLess_any (a b c d:Int) (w:World) :
  Calls Tryz.prog 129 #[tv a b,tv c d] w fun e w'=>e= .returned (.bool (leB a b c d))/\Below w.heap.size w w':=by
 have H:Hid (leB a b c d=(okB a b&&okB c d&&decide (a<=c)&&decide (b<=d))):=rfl;cases hs:okB a b
 ·go_enter Tryz.func129,Tryz.ntmps129;go_wp2_with fail;refine (specOk_any _ _ _).mono ?_;rintro e w1 ⟨rfl,hb1⟩;go_wp2_with fail;go_ret;refine ⟨rB (by rw [H.out];simp [hs]),?_⟩
  repeat' (first|(with_reducible exact Below.refl _ _)|(with_reducible assumption)|(with_reducible refine bSz ?_ (by with_reducible assumption))|(with_reducible refine bAz ?_ _)|(with_reducible refine Below.drew ?_)|(with_reducible refine bDz ?_ _)|(with_reducible refine Below.setCell ?_ ?_ _)|(simp;done)|(simp;omega)|omega)
 ·cases ht:okB c d
  ·go_enter Tryz.func129,Tryz.ntmps129;go_wp2_with fail;refine (specOk_any _ _ _).mono ?_;rintro e w1 ⟨rfl,hb1⟩;obtain ⟨bs,bt⟩:=boxed2 hb1;obtain ⟨t0,t1,_,_⟩:=bt.two;go_wp2_with fail;refine (specOk_any _ _ _).mono ?_;rintro e w2 ⟨rfl,hb2⟩;go_wp2_with fail;go_ret;refine ⟨rB (by rw [H.out];simp [ht]),?_⟩
   repeat' (first|(with_reducible exact Below.refl _ _)|(with_reducible assumption)|(with_reducible refine bSz ?_ (by with_reducible assumption))|(with_reducible refine bAz ?_ _)|(with_reducible refine Below.drew ?_)|(with_reducible refine bDz ?_ _)|(with_reducible refine Below.setCell ?_ ?_ _)|(simp;done)|(simp;omega)|omega)
  ·by_cases h1:a<=c
   ·by_cases h2:b<=d
    all_goals
     go_enter Tryz.func129,Tryz.ntmps129;go_wp2_with fail;refine (specOk_any _ _ _).mono ?_;rintro e w1 ⟨rfl,hb1⟩;obtain ⟨bs,bt⟩:=boxed2 hb1;obtain ⟨s0,s1,_,_⟩:=bs.two;obtain ⟨t0,t1,_,_⟩:=bt.two;go_wp2_with fail;refine (specOk_any _ _ _).mono ?_;rintro e w2 ⟨rfl,hb2⟩;obtain ⟨x0,x1,_,_⟩:=(bs.keep hb2).two;obtain ⟨y0,y1,_,_⟩:=(bt.keep hb2).two;go_wp2_with fail;go_ret;refine ⟨rB (by rw [H.out];simp [*]),?_⟩
     repeat' (first|(with_reducible exact Below.refl _ _)|(with_reducible assumption)|(with_reducible refine bSz ?_ (by with_reducible assumption))|(with_reducible refine bAz ?_ _)|(with_reducible refine Below.drew ?_)|(with_reducible refine bDz ?_ _)|(with_reducible refine Below.setCell ?_ ?_ _)|(simp;done)|(simp;omega)|omega)
   ·go_enter Tryz.func129,Tryz.ntmps129;go_wp2_with fail;refine (specOk_any _ _ _).mono ?_;rintro e w1 ⟨rfl,hb1⟩;obtain ⟨bs,bt⟩:=boxed2 hb1;obtain ⟨s0,s1,_,_⟩:=bs.two;obtain ⟨t0,t1,_,_⟩:=bt.two;go_wp2_with fail;refine (specOk_any _ _ _).mono ?_;rintro e w2 ⟨rfl,hb2⟩;obtain ⟨x0,x1,_,_⟩:=(bs.keep hb2).two;obtain ⟨y0,y1,_,_⟩:=(bt.keep hb2).two;go_wp2_with fail;go_ret;refine ⟨rB (by rw [H.out];simp;omega),?_⟩
    repeat' (first|(with_reducible exact Below.refl _ _)|(with_reducible assumption)|(with_reducible refine bSz ?_ (by with_reducible assumption))|(with_reducible refine bAz ?_ _)|(with_reducible refine Below.drew ?_)|(with_reducible refine bDz ?_ _)|(with_reducible refine Below.setCell ?_ ?_ _)|(simp;done)|(simp;omega)|omega)
theorem toTime_any (a b:Int) (w:World) :
  Calls Tryz.prog 54 #[tv a b] w fun e w'=>e= .returned (tv a b)/\Below w.heap.size w w':=by
 go_enter Tryz.func54,Tryz.ntmps54
 go_wp2
 go_returns
 refine ⟨rfl,?_⟩
 repeat' (first|(with_reducible exact Below.refl _ _)|(with_reducible assumption)|(with_reducible refine bSz ?_ (by with_reducible assumption))|(with_reducible refine bAz ?_ _)|(with_reducible refine Below.drew ?_)|(with_reducible refine bDz ?_ _)|(with_reducible refine Below.setCell ?_ ?_ _)|(simp;done)|(simp;omega)|omega)
def eqB (a b c d:Int):Bool:=decide (a=c/\b=d)
theorem eqB_self (a b:Int):eqB a b a b=true:=by simp [eqB]
theorem eqTime_any (a b c d:Int) (w:World) :
  Calls Tryz.prog 117 #[tv a b,tv c d] w fun e w'=>e= .returned (.bool (eqB a b c d))/\Below w.heap.size w w':=by
 have H:Hid (eqB a b c d=decide (a=c/\b=d)):=rfl
 by_cases h1:a=c
 ·by_cases h2:b=d
  ·subst h1;subst h2;go_enter Tryz.func117,Tryz.ntmps117
   go_wp2
   go_ret;refine ⟨rB (by rw [H.out];simp),?_⟩
   repeat' (first|(with_reducible exact Below.refl _ _)|(with_reducible assumption)|(with_reducible refine bSz ?_ (by with_reducible assumption))|(with_reducible refine bAz ?_ _)|(with_reducible refine Below.drew ?_)|(with_reducible refine bDz ?_ _)|(with_reducible refine Below.setCell ?_ ?_ _)|(simp;done)|(simp;omega)|omega)
  ·subst h1;have h3:(b==d)=false:=by simpa using h2
   go_enter Tryz.func117,Tryz.ntmps117
   go_wp2
   go_ret;refine ⟨rB (by rw [H.out];simp [h2]),?_⟩
   repeat' (first|(with_reducible exact Below.refl _ _)|(with_reducible assumption)|(with_reducible refine bSz ?_ (by with_reducible assumption))|(with_reducible refine bAz ?_ _)|(with_reducible refine Below.drew ?_)|(with_reducible refine bDz ?_ _)|(with_reducible refine Below.setCell ?_ ?_ _)|(simp;done)|(simp;omega)|omega)
 ·have h3:(a==c)=false:=by simpa using h1
  go_enter Tryz.func117,Tryz.ntmps117
  go_wp2
  go_ret;refine ⟨rB (by rw [H.out];simp [h1]),?_⟩
  repeat' (first|(with_reducible exact Below.refl _ _)|(with_reducible assumption)|(with_reducible refine bSz ?_ (by with_reducible assumption))|(with_reducible refine bAz ?_ _)|(with_reducible refine Below.drew ?_)|(with_reducible refine bDz ?_ _)|(with_reducible refine Below.setCell ?_ ?_ _)|(simp;done)|(simp;omega)|omega)
end Go.Proofs.YtbdpcngcbnoioaaGreatDoor
