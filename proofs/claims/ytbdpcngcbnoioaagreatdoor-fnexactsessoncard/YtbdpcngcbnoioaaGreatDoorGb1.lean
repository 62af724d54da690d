import Derived.Test.YtbdpcngcbnoioaaGreatDoorGa6
import Derived.Deep.Cut
import Derived.Deep.Strs
set_option maxHeartbeats 8000000
namespace Go.Proofs.YtbdpcngcbnoioaaGreatDoor
abbrev Sp:=(Int×Int)×(Int×Int)
abbrev Rw:=Sp×Int
abbrev It:=(Int×Int)×Int
def ltT (s t:Int×Int):Bool:=decide (s.1<t.1\/(s.1=t.1/\s.2<t.2))
def ltS (s t:Sp):Bool:=ltT s.1 t.1||(decide (s.1=t.1)&&ltT s.2 t.2)
theorem ltT_ord:Ord ltT where
 irr a:=by simp [ltT]
 trans a b c h1 h2:=by simp [ltT] at *;omega
 tri a b h1 h2:=by simp [ltT] at *;exact Prod.ext (by omega) (by omega)
theorem ltS_iff (s t:Sp):ltS s t=true↔s.1.1<t.1.1\/(s.1.1=t.1.1/\(s.1.2<t.1.2\/(s.1.2=t.1.2/\(s.2.1<t.2.1\/(s.2.1=t.2.1/\s.2.2<t.2.2))))):=by
 simp only [ltS,ltT,Bool.or_eq_true,Bool.and_eq_true,decide_eq_true_eq,Prod.ext_iff];omega
theorem ltS_ord:Ord ltS where
 irr a:=by rw [Bool.eq_false_iff,Ne,ltS_iff];omega
 trans a b c h1 h2:=by rw [ltS_iff] at *;omega
 tri a b h1 h2:=by
  rw [Bool.eq_false_iff,Ne,ltS_iff] at h1 h2;exact Prod.ext (Prod.ext (by omega) (by omega)) (Prod.ext (by omega) (by omega))
def cmpT (s t:Int×Int):Int:=if ltT s t then -1 else if ltT t s then 1 else 0
def cmpS (s t:Sp):Int:=if ltS s t then -1 else if ltS t s then 1 else 0
theorem cmpS_lt (s t:Sp):decide (cmpS s t<0)=ltS s t:=by
 unfold cmpS;cases h1:ltS s t<;>cases h2:ltS t s<;>simp
theorem cmpS_gt (s t:Sp):decide (0<cmpS s t)=ltS t s:=by
 unfold cmpS;cases h1:ltS s t<;>cases h2:ltS t s<;>simp;have:=ltS_ord.trans _ _ _ h1 h2;rw [ltS_ord.irr] at this;cases this
theorem cmpT_lt (s t:Int×Int):decide (cmpT s t<0)=ltT s t:=by
 unfold cmpT;cases h1:ltT s t<;>cases h2:ltT t s<;>simp
def rwOkB (r:Rw):Bool:=inB r.1.1.1 0 3&&inB r.1.1.2 0 99&&okB r.1.2.1 r.1.2.2&&inB r.2 (-99999) 99999
def rokB (l:List Rw):Bool:=decide (l.length<=400)&&l.all rwOkB
theorem rLz {l:List Rw} (h:rokB l=true):l.length<=400:=by simp [rokB] at h;exact h.1
theorem rok_at {l:List Rw} (h:rokB l=true) {r:Rw} (hr:r∈l):rwOkB r=true:=by
 simp only [rokB,Bool.and_eq_true,List.all_eq_true] at h;exact h.2 r hr
theorem rok_mk {l:List Rw} (h:l.length<=400) (ha:∀ r∈l,rwOkB r=true):rokB l=true:=by
 simp only [rokB,Bool.and_eq_true,List.all_eq_true,decide_eq_true_eq];exact ⟨h,ha⟩
theorem rok_no {l:List Rw} {r:Rw} (hr:r∈l) (h:rwOkB r=false):rokB l=false:=by
 rw [Bool.eq_false_iff];intro e;rw [rok_at e hr] at h;cases h
theorem rok_long {l:List Rw} (h:400<l.length):rokB l=false:=by simp [rokB];omega
theorem rw_time {r:Rw} (h:rwOkB r=true):okB r.1.2.1 r.1.2.2=true:=by simp [rwOkB] at h;exact h.1.2
theorem rw_diff {r:Rw} (h:rwOkB r=true) : -99999<=r.2/\r.2<=99999:=by simp [rwOkB,inB] at h;exact h.2
def bstep (l:List Rw) (i:Nat):Bool :=
 match l[i]? with
 | none=>true
 | some r=>decide (r.2≠0)&&(match i with|0=>true|j+1=>match l[j]? with|none=>true|some q=>ltS q.1 r.1)
def bokB (l:List Rw):Bool:=rokB l&&(List.range l.length).all (bstep l)
theorem bRz {l:List Rw} (h:bokB l=true):rokB l=true:=by simp [bokB] at h;exact h.1
theorem bok_nr {l:List Rw} (h:rokB l=false):bokB l=false:=by simp [bokB,h]
theorem bok_no {l:List Rw} {i:Nat} (hi:i<l.length) (h:bstep l i=false):bokB l=false:=by
 unfold bokB;have:(List.range l.length).all (bstep l)=false:=by
  rw [List.all_eq_false];exact ⟨i,by simpa using hi,by simp [h]⟩
 rw [this,Bool.and_false]
theorem bok_mk {l:List Rw} (h:rokB l=true) (ha:∀ i,i<l.length->bstep l i=true):bokB l=true:=by
 unfold bokB;rw [h,Bool.true_and,List.all_eq_true];intro j hj;exact ha j (by simpa using hj)
theorem bstep_first {l:List Rw} {r:Rw} (h:l[0]?=some r):bstep l 0=decide (r.2≠0):=by unfold bstep;rw [h];simp
theorem bstep_next {l:List Rw} {r q:Rw} {j:Nat} (h:l[j+1]?=some r) (h':l[j]?=some q):bstep l (j+1)=(decide (r.2≠0)&&ltS q.1 r.1):=by
 unfold bstep;rw [h];simp [h']
theorem bok_nz {l:List Rw} (h:bokB l=true):Nz l:=fun r hr=>by
 obtain ⟨i,hi,e⟩:=List.getElem_of_mem hr;simp only [bokB,Bool.and_eq_true,List.all_eq_true] at h;have:=h.2 i (by simpa using hi);unfold bstep at this;rw [List.getElem?_eq_getElem hi,e] at this;simp at this;exact this.1
theorem srt_of_steps {l:List Rw} (h:∀ i r q,l[i+1]?=some r->l[i]?=some q->ltS q.1 r.1=true):Srt ltS l:=by
 have key:∀ d i (h1:i+d+1<l.length),ltS (l[i]'(by omega)).1 l[i+d+1].1=true:=by
  intro d
  induction d with
  | zero=>intro i h1;exact h i _ _ (List.getElem?_eq_getElem h1) (List.getElem?_eq_getElem (by omega))
  | succ d ih =>
   intro i h1;exact ltS_ord.trans _ _ _ (ih i (by omega)) (h (i+d+1) _ _ (List.getElem?_eq_getElem (by omega)) (List.getElem?_eq_getElem (by omega)))
 refine List.pairwise_iff_getElem.2 fun i j hi hj hij=>?_;obtain ⟨d,rfl⟩:∃ d,j=i+d+1:=⟨j-i-1,by omega⟩;exact key d i hj
theorem bok_srt {l:List Rw} (h:bokB l=true):Srt ltS l:=srt_of_steps fun i r q h1 h2=>by
 simp only [bokB,Bool.and_eq_true,List.all_eq_true] at h;have:=h.2 (i+1) (by simpa using (List.getElem?_eq_some_iff.1 h1).1);rw [bstep_next h1 h2] at this;simp at this;exact this.2
theorem bok_of {l:List Rw} (h:rokB l=true) (hn:Nz l) (hs:Srt ltS l):bokB l=true:=bok_mk h fun i hi=>by
 have hr:=List.getElem?_eq_getElem hi;have h0:=hn _ (List.getElem_mem hi)
 match i,hi,hr,h0 with
 | 0,hi,hr,h0=>rw [bstep_first hr];simpa using h0
 | j+1,hi,hr,h0 =>
  have hq:=List.getElem?_eq_getElem (l:=l) (i:=j) (by omega);rw [bstep_next hr hq,Bool.and_eq_true];exact ⟨by simpa using h0,List.pairwise_iff_getElem.1 hs j (j+1) (by omega) hi (by omega)⟩
theorem bok_sum (l:List Rw):bokB (sumL ltS l)=rokB (sumL ltS l):=by
 cases h:rokB (sumL ltS l)
 ·exact bok_nr h
 ·exact bok_of h (sumL_nz _ _) (sumL_srt ltS_ord _)
def fitL (l:List Rw):List Rw:=if bokB l then l else []
def sumF (l:List Rw):List Rw:=fitL (sumL ltS l)
def bothB (a b:List Rw):List Rw:=if rokB a&&rokB b then sumF (a++b) else []
def negL (l:List Rw):List Rw:=l.map fun r=>(r.1,-r.2)
def lessL (l:List Rw):List Rw:=if rokB l then sumF (negL l) else []
def atL (l:List Rw) (x y:Int):List It:=(l.filter fun r=>leB r.1.2.1 r.1.2.2 x y).map fun r=>(r.1.1,r.2)
def itemsL (l:List Rw) (x y:Int):List It:=if rokB l&&okB x y then sumL ltT (atL l x y) else []
theorem rok_nil:rokB []=true:=by decide
theorem bok_nil:bokB []=true:=by decide
theorem fit_bok (l:List Rw):bokB (fitL l)=true:=by
 unfold fitL;split
 ·assumption
 ·exact bok_nil
theorem fit_eq {l:List Rw} (h:bokB l=true):fitL l=l:=by simp [fitL,h]
theorem sumF_eq (l:List Rw):sumF l=if rokB (sumL ltS l) then sumL ltS l else []:=by unfold sumF fitL;rw [bok_sum]
theorem sumF_ok {l:List Rw} (h:rokB (sumL ltS l)=true):sumF l=sumL ltS l:=by rw [sumF_eq,if_pos h]
theorem sumF_no {l:List Rw} (h:rokB (sumL ltS l)=false):sumF l=[]:=by rw [sumF_eq];simp [h]
theorem sumF_bok (l:List Rw):bokB (sumF l)=true:=fit_bok _
theorem sumF_len4 (l:List Rw):(sumF l).length<=400:=rLz (bRz (sumF_bok l))
theorem rw_parts {r:Rw} (h:rwOkB r=true):inB r.1.1.1 0 3=true/\inB r.1.1.2 0 99=true/\okB r.1.2.1 r.1.2.2=true:=by
 simp only [rwOkB,Bool.and_eq_true] at h;exact ⟨h.1.1.1,h.1.1.2,h.1.2⟩
open Go.RowKit
section
variable {α:Type}
theorem flat_len {enc:α->List Value} {k:Nat} (hk:∀ x,(enc x).length=k) (l:List α):(l.flatMap enc).length=l.length*k:=by
 induction l with
 | nil=>simp
 | cons x l ih=>rw [List.flatMap_cons,List.length_append,hk,ih,List.length_cons,Nat.add_mul];omega
theorem flat_get {enc:α->List Value} {k:Nat} (hk:∀ x,(enc x).length=k) (l:List α) {i:Nat} {x:α} (h:l[i]?=some x) {j:Nat} (hj:j<k):(l.flatMap enc)[i*k+j]?=(enc x)[j]?:=by
 induction l generalizing i with
 | nil=>simp at h
 | cons y l ih =>
  cases i with
  | zero =>
   simp at h;subst h;rw [List.flatMap_cons,Nat.zero_mul,Nat.zero_add,List.getElem?_append_left (by rw [hk];exact hj)]
  | succ i =>
   have:=ih (i:=i) (by simpa using h);rw [List.flatMap_cons,List.getElem?_append_right (by rw [hk,Nat.add_mul];omega),hk,<-this]
   congr 1
   rw [Nat.add_mul];omega
def SlK (enc:α->List Value) (k:Nat) (w:World) (v:Value) (l:List α):Prop :=
 ∃ a cap,v= .slice a l.length cap/\l.length<=cap/\cap<=maxLen/\l.length<=2097152/\∀ i x,l[i]?=some x->∃ g off,a=some ⟨g,off,none⟩/\g<w.heap.size/\∀ j,j<k->w.cell? ⟨g,off+i*k+j,none⟩=(enc x)[j]?
theorem SlK.keep {enc:α->List Value} {k:Nat} {w w1:World} {v:Value} {l:List α} (h:SlK enc k w v l) (hb:Below w.heap.size w w1):SlK enc k w1 v l:=by
 obtain ⟨a,cap,rfl,h1,h2,h3,h4⟩:=h;refine ⟨a,cap,rfl,h1,h2,h3,fun i x hi=>?_⟩;obtain ⟨g,off,rfl,hg,c⟩:=h4 i x hi;exact ⟨g,off,rfl,Nat.lt_of_lt_of_le hg hb.size,fun j hj=>by rw [hb.cell (p:=⟨g,_,none⟩) hg];exact c j hj⟩
def FillK (enc:α->List Value) (k:Nat) (c:Array Value) (l:List α) (n:Nat):Prop:=∀ i x,i<n->l[i]?=some x->∀ j,j<k->c[i*k+j]?=(enc x)[j]?
theorem SlK.of_blk {enc:α->List Value} {k:Nat} {w:World} {g cap:Nat} {c:Array Value} {t:TypeId} {l:List α} (h:Bk w g c t) (hf:FillK enc k c l l.length) (hk:∀ x,(enc x).length=k) (hc:l.length<=cap) (hm:cap<=maxLen) (hn:l.length<=2097152) :
  SlK enc k w (.slice (some ⟨g,0,none⟩) l.length cap) l:=by
 refine ⟨_,cap,rfl,hc,hm,hn,fun i x hi=>⟨g,0,rfl,h.lt,fun j hj=>?_⟩⟩;have e:=hf i x (List.getElem?_eq_some_iff.1 hi).1 hi j hj;have hj':j<(enc x).length:=by rw [hk];exact hj
 rw [Nat.zero_add,List.getElem?_eq_getElem hj'];rw [List.getElem?_eq_getElem hj'] at e;exact h.cell e
abbrev OwnK (enc:α->List Value) (k:Nat) (t:TypeId) (w:World) (B:Nat) (v:Value) (l:List α):Prop:=w.ownsRow B t k v l.length (l.flatMap enc)
theorem ownK_sl {enc:α->List Value} {k:Nat} {t:TypeId} {w:World} {B:Nat} {v:Value} {l:List α} (h:OwnK enc k t w B v l) (hk:∀ x,(enc x).length=k) (hl:l.length<=2097152):SlK enc k w v l:=by
 have hh:=h;obtain ⟨_,h2⟩:=h
 rcases h2 with ⟨rfl,h0⟩|⟨g,cap,cur,rfl,hg,hb,hc,hm,_,_⟩
 ·have:l=[]:=List.eq_nil_of_length_eq_zero h0;subst this;exact ⟨none,0,rfl,Nat.le_refl _,by unfold maxLen;omega,by simp,fun i x hi=>by simp at hi⟩
 ·refine ⟨_,cap,rfl,hc,hm,hl,fun i x hi=>⟨g,0,rfl,lt_of_block hb,fun j hj=>?_⟩⟩;have hi':=(List.getElem?_eq_some_iff.1 hi).1;have:i*k+j<l.length*k:=by
   have:(i+1)*k<=l.length*k:=Nat.mul_le_mul_right k hi';rw [Nat.add_mul] at this;omega
  rw [Nat.zero_add,hh.cellAt _ this,flat_get hk l hi hj]
theorem oN (enc:α->List Value) (k:Nat) (t:TypeId) (w:World) (B:Nat):OwnK enc k t w B (.slice none 0 0) []:=⟨by simp, .inl ⟨rfl,rfl⟩⟩
theorem ownK_of_fill {enc:α->List Value} {k:Nat} {t:TypeId} {w:World} {B g cap:Nat} {c:Array Value} {l:List α} (h:Bk w g c t) (hf:FillK enc k c l l.length) (hk:∀ x,(enc x).length=k) (hs:c.size=cap*k) (hc:l.length<=cap) (hm:cap<=maxLen) (hg:B<=g) :
  OwnK enc k t w B (.slice (some ⟨g,0,none⟩) l.length cap) l:=by
 refine ⟨flat_len hk l, .inr ⟨g,cap,c,rfl,hg,h,hc,hm,hs,?_⟩⟩
 apply List.ext_getElem?
 intro i
 by_cases hi:i<l.length*k
 ·have hk0:0<k:=by
   rcases Nat.eq_zero_or_pos k with e|e
   ·subst e;omega
   ·exact e
  rw [List.getElem?_take,if_pos hi,Array.getElem?_toList];have e:i=i / k*k+i%k:=by rw [Nat.mul_comm];exact (Nat.div_add_mod i k).symm
  have hq:i / k<l.length:=Nat.div_lt_of_lt_mul (by rw [Nat.mul_comm];exact hi);have hr:i%k<k:=Nat.mod_lt _ hk0;rw [e,hf _ _ hq (List.getElem?_eq_getElem hq) _ hr,flat_get hk l (List.getElem?_eq_getElem hq) hr]
 ·rw [List.getElem?_take,if_neg hi,List.getElem?_eq_none (by rw [flat_len hk];omega)]
theorem ownK_open {enc:α->List Value} {k:Nat} {t:TypeId} {w:World} {B:Nat} {v:Value} {l:List α} (h:OwnK enc k t w B v l) (hk:∀ x,(enc x).length=k):(v= .slice none 0 0/\l=[]) \/
  ∃ g cap c,v= .slice (some ⟨g,0,none⟩) l.length cap/\B<=g/\Bk w g c t/\c.size=cap*k/\l.length<=cap/\cap<=maxLen/\FillK enc k c l l.length:=by
 obtain ⟨h1,⟨rfl,h2⟩|⟨g,cap,cur,rfl,hg,hh,hc,hm,hs,ht⟩⟩:=h
 ·exact .inl ⟨rfl,List.eq_nil_of_length_eq_zero h2⟩
 ·refine .inr ⟨g,cap,cur,rfl,hg,hh,hs,hc,hm,fun i x hi hx j hj=>?_⟩;have:i*k+j<l.length*k:=by
   have:(i+1)*k<=l.length*k:=Nat.mul_le_mul_right k hi;rw [Nat.add_mul] at this;omega
  rw [<- flat_get hk l hx hj,<-ht,List.getElem?_take,if_pos this,Array.getElem?_toList]
theorem oAz {t:TypeId} {k:Nat} {w w1:World} {B:Nat} {v:Value} {n:Nat} {xs:List Value} (h:w.ownsRow B t k v n xs) (hk:∀ b,v.ownBlock=some b->w1.heap[b]?=w.heap[b]?):w1.ownsRow B t k v n xs:=by
 obtain ⟨h1,h2⟩:=h;refine ⟨h1,?_⟩
 rcases h2 with h2|⟨g,cap,cur,rfl,hg,hh,r⟩
 ·exact .inl h2
 ·exact .inr ⟨g,cap,cur,rfl,hg,by rw [hk g (by simp [Value.ownBlock])];exact hh,r⟩
theorem oT {t:TypeId} {k:Nat} {w:World} {B:Nat} {v:Value} {n:Nat} {xs:List Value} (h:w.ownsRow B t k v n xs) (b:Nat) (e:v.ownBlock=some b):b<w.heap.size:=by
 obtain ⟨h1,⟨rfl,h2⟩|⟨g,cap,cur,rfl,hg,hh,_⟩⟩:=h
 ·simp [Value.ownBlock] at e
 ·simp [Value.ownBlock] at e;subst e;exact lt_of_block hh
theorem oB {t:TypeId} {k:Nat} {w:World} {B:Nat} {v:Value} {n:Nat} {xs:List Value} (h:w.ownsRow B t k v n xs) (b:Nat) (e:v.ownBlock=some b):B<=b:=by
 obtain ⟨h1,⟨rfl,h2⟩|⟨g,cap,cur,rfl,hg,hh,_⟩⟩:=h
 ·simp [Value.ownBlock] at e
 ·simp [Value.ownBlock] at e;subst e;exact hg
theorem ownK_beside {t:TypeId} {k:Nat} {w w1:World} {B g:Nat} {v:Value} {n:Nat} {xs:List Value} (h:w.ownsRow B t k v n xs) (hb:Bx g w w1) (hk:∀ b,v.ownBlock=some b->b≠g):w1.ownsRow B t k v n xs :=
 oAz h fun b e=>hb.block b (oT h b e) (hk b e)
end
abbrev rowC (r:Rw):List Value:=[.int .i64 r.1.1.1, .int .i64 r.1.1.2, .int .i64 r.1.2.1, .int .i64 r.1.2.2, .int .i64 r.2]
abbrev itC (r:It):List Value:=[.int .i64 r.1.1, .int .i64 r.1.2, .int .i64 r.2]
abbrev rv (k v a b d:Int):Value:= .agg #[.int .i64 k, .int .i64 v, .int .i64 a, .int .i64 b, .int .i64 d]
abbrev iv (k v d:Int):Value:= .agg #[.int .i64 k, .int .i64 v, .int .i64 d]
theorem rowC_len (x:Rw):(rowC x).length=5:=rfl
theorem itC_len (x:It):(itC x).length=3:=rfl
abbrev Rs (w:World) (v:Value) (l:List Rw):Prop:=SlK rowC 5 w v l
abbrev Is (w:World) (v:Value) (l:List It):Prop:=SlK itC 3 w v l
abbrev OwnR (w:World) (B:Nat) (v:Value) (l:List Rw):Prop:=OwnK rowC 5 55 w B v l
abbrev OwnI (w:World) (B:Nat) (v:Value) (l:List It):Prop:=OwnK itC 3 98 w B v l
theorem OwnR.rs {w:World} {B:Nat} {v:Value} {l:List Rw} (h:OwnR w B v l) (hl:l.length<=2097152):Rs w v l:=ownK_sl h rowC_len hl
theorem OwnI.is {w:World} {B:Nat} {v:Value} {l:List It} (h:OwnI w B v l) (hl:l.length<=2097152):Is w v l:=ownK_sl h itC_len hl
theorem Rs.open {w:World} {v:Value} {l:List Rw} (h:Rs w v l):∃ a cap,v= .slice a l.length cap/\l.length<=cap/\cap<=maxLen/\l.length<=2097152 /\
  ∀ i,i<l.length->∃ g off K V A B D,a=some ⟨g,off,none⟩/\g<w.heap.size/\l[i]?=some (((K,V),(A,B)),D)/\w.cell? ⟨g,off+i*5,none⟩=some (.int .i64 K)/\w.cell? ⟨g,off+i*5+1,none⟩=some (.int .i64 V) /\
   w.cell? ⟨g,off+i*5+2,none⟩=some (.int .i64 A)/\w.cell? ⟨g,off+i*5+3,none⟩=some (.int .i64 B)/\w.cell? ⟨g,off+i*5+4,none⟩=some (.int .i64 D):=by
 obtain ⟨a,cap,h0,h1,h2,h3,h4⟩:=h;refine ⟨a,cap,h0,h1,h2,h3,fun i hi=>?_⟩;obtain ⟨g,off,ha,hg,c⟩:=h4 i l[i] (List.getElem?_eq_getElem hi);exact ⟨g,off,_,_,_,_,_,ha,hg,List.getElem?_eq_getElem hi,c 0 (by omega),c 1 (by omega),c 2 (by omega),c 3 (by omega),c 4 (by omega)⟩
theorem Is.open {w:World} {v:Value} {l:List It} (h:Is w v l):∃ a cap,v= .slice a l.length cap/\l.length<=cap/\cap<=maxLen/\l.length<=2097152 /\
  ∀ i,i<l.length->∃ g off K V D,a=some ⟨g,off,none⟩/\g<w.heap.size/\l[i]?=some ((K,V),D)/\w.cell? ⟨g,off+i*3,none⟩=some (.int .i64 K)/\w.cell? ⟨g,off+i*3+1,none⟩=some (.int .i64 V)/\w.cell? ⟨g,off+i*3+2,none⟩=some (.int .i64 D):=by
 obtain ⟨a,cap,h0,h1,h2,h3,h4⟩:=h;refine ⟨a,cap,h0,h1,h2,h3,fun i hi=>?_⟩;obtain ⟨g,off,ha,hg,c⟩:=h4 i l[i] (List.getElem?_eq_getElem hi);exact ⟨g,off,_,_,_,ha,hg,List.getElem?_eq_getElem hi,c 0 (by omega),c 1 (by omega),c 2 (by omega)⟩
theorem Bk.five {w:World} {k:Nat} {x0 x1 x2 x3 x4:Value} {t:TypeId} (h:Bk w k #[x0,x1,x2,x3,x4] t) :
  w.cell? ⟨k,0,none⟩=some x0/\w.cell? ⟨k,1,none⟩=some x1/\w.cell? ⟨k,2,none⟩=some x2/\w.cell? ⟨k,3,none⟩=some x3/\w.cell? ⟨k,4,none⟩=some x4:=by
 unfold Bk at h;simp [World.cell?,h]
theorem Bk.three {w:World} {k:Nat} {x0 x1 x2:Value} {t:TypeId} (h:Bk w k #[x0,x1,x2] t) :
  w.cell? ⟨k,0,none⟩=some x0/\w.cell? ⟨k,1,none⟩=some x1/\w.cell? ⟨k,2,none⟩=some x2:=by
 unfold Bk at h;simp [World.cell?,h]
theorem l6In_eq {n lo hi:Int} {r:Bool} (h:inB n lo hi=r) (w:World):Calls Tryz.prog 132 #[.int .i64 n, .int .i64 lo, .int .i64 hi] w fun e w'=>e= .returned (.bool r)/\w'=w:=by
 rw [<- h];exact l6In_any n lo hi w
theorem implOk_is {a b:Int} {r:Bool} (h:okB a b=r) (w:World):Calls Tryz.prog 67 #[tv a b] w fun e w'=>e= .returned (.bool r)/\Below w.heap.size w w':=by
 rw [<- h];exact implOk_any a b w
theorem specRow_any (k v a b d:Int) (w:World) :
  Calls Tryz.prog 186 #[rv k v a b d] w fun e w'=>e= .returned (.bool (rwOkB (((k,v),(a,b)),d)))/\Below w.heap.size w w':=by
 have H:Hid (rwOkB (((k,v),(a,b)),d)=(inB k 0 3&&inB v 0 99&&okB a b&&inB d (-99999) 99999)):=rfl;have bk:=Bk.new (w:=w) #[.int .i64 k, .int .i64 v, .int .i64 a, .int .i64 b, .int .i64 d] 55 rfl;have hb0:Below w.heap.size w (w.alloc (.cells #[.int .i64 k, .int .i64 v, .int .i64 a, .int .i64 b, .int .i64 d] 55)):=bAz (Below.refl _ _) _;cases h1:inB k 0 3
 ·go_enter Tryz.func186,Tryz.ntmps186
  go_wp2_with (go_at_call 132;refine (l6In_eq (by with_reducible assumption) _).mono ?_;rintro e w' ⟨rfl,rfl⟩)
  go_ret;exact ⟨rB (by rw [H.out,h1];rfl),hb0⟩
 cases h2:inB v 0 99
 ·go_enter Tryz.func186,Tryz.ntmps186
  go_wp2_with (go_at_call 132;refine (l6In_eq (by with_reducible assumption) _).mono ?_;rintro e w' ⟨rfl,rfl⟩)
  go_ret;exact ⟨rB (by rw [H.out,h1,h2];rfl),hb0⟩
 cases h3:okB a b
 ·go_enter Tryz.func186,Tryz.ntmps186
  go_wp2_with (first|(go_at_call 132;refine (l6In_eq (by with_reducible assumption) _).mono ?_;rintro e w' ⟨rfl,rfl⟩)|(go_at_call 65;refine (specOk_eq (by with_reducible assumption) _).mono ?_;rintro e w1 ⟨rfl,hb1⟩))
  go_ret;exact ⟨rB (by rw [H.out,h1,h2,h3];rfl),bSz hb0 hb1⟩
 cases h4:inB d (-99999) 99999
 all_goals
  go_enter Tryz.func186,Tryz.ntmps186
  go_wp2_with (first|(go_at_call 132;refine (l6In_eq (by with_reducible assumption) _).mono ?_;rintro e w' ⟨rfl,rfl⟩)|(go_at_call 65;refine (specOk_eq (by with_reducible assumption) _).mono ?_;rintro e w1 ⟨rfl,hb1⟩;obtain ⟨q0,q1,q2,q3,q4⟩:=(bk.keep hb1).five))
  go_ret;exact ⟨rB (by rw [H.out,h1,h2,h3,h4];rfl),bSz hb0 hb1⟩
theorem specRow_eq {k v a b d:Int} {r:Bool} (h:rwOkB (((k,v),(a,b)),d)=r) (w:World):Calls Tryz.prog 186 #[rv k v a b d] w fun e w'=>e= .returned (.bool r)/\Below w.heap.size w w':=by
 rw [<- h];exact specRow_any k v a b d w
theorem thingOk_any (k v:Int) (w:World):Calls Tryz.prog 194 #[.int .i64 k, .int .i64 v] w fun e w'=>e= .returned (.bool (inB k 0 3&&inB v 0 99))/\w'=w:=by
 have H1:Hid (inB k 0 3=decide (0<=k/\k<=3)):=rfl;have H2:Hid (inB v 0 99=decide (0<=v/\v<=99)):=rfl
 by_cases h1:0<=k
 ·by_cases h2:k<4
  ·by_cases h3:0<=v
   ·by_cases h4:v<100
    all_goals
     go_enter Tryz.func194,Tryz.ntmps194;go_wp2_with fail;go_ret;exact ⟨rB (by rw [H1.out,H2.out];simp;omega),rfl⟩
   ·go_enter Tryz.func194,Tryz.ntmps194;go_wp2_with fail;go_ret;exact ⟨rB (by rw [H1.out,H2.out];simp;omega),rfl⟩
  ·go_enter Tryz.func194,Tryz.ntmps194;go_wp2_with fail;go_ret;exact ⟨rB (by rw [H1.out,H2.out];simp;omega),rfl⟩
 ·go_enter Tryz.func194,Tryz.ntmps194;go_wp2_with fail;go_ret;exact ⟨rB (by rw [H1.out,H2.out];simp;omega),rfl⟩
theorem thingOk_eq {k v:Int} {r:Bool} (h:(inB k 0 3&&inB v 0 99)=r) (w:World):Calls Tryz.prog 194 #[.int .i64 k, .int .i64 v] w fun e w'=>e= .returned (.bool r)/\w'=w:=by
 rw [<- h];exact thingOk_any k v w
theorem implRow_any (k v a b d:Int) (w:World) :
  Calls Tryz.prog 154 #[rv k v a b d] w fun e w'=>e= .returned (.bool (rwOkB (((k,v),(a,b)),d)))/\Below w.heap.size w w':=by
 have H:Hid (rwOkB (((k,v),(a,b)),d)=(inB k 0 3&&inB v 0 99&&okB a b&&decide (-99999<=d/\d<=99999))):=rfl;have bk:=Bk.new (w:=w) #[.int .i64 k, .int .i64 v, .int .i64 a, .int .i64 b, .int .i64 d] 55 rfl;have hb0:Below w.heap.size w (w.alloc (.cells #[.int .i64 k, .int .i64 v, .int .i64 a, .int .i64 b, .int .i64 d] 55)):=bAz (Below.refl _ _) _;cases h1:(inB k 0 3&&inB v 0 99)
 ·go_enter Tryz.func154,Tryz.ntmps154
  go_wp2_with (go_at_call 194;refine (thingOk_eq (by with_reducible assumption) _).mono ?_;rintro e w' ⟨rfl,rfl⟩)
  go_ret;exact ⟨rB (by rw [H.out,h1];rfl),hb0⟩
 cases h3:okB a b
 ·go_enter Tryz.func154,Tryz.ntmps154
  go_wp2_with (first|(go_at_call 194;refine (thingOk_eq (by with_reducible assumption) _).mono ?_;rintro e w' ⟨rfl,rfl⟩)|(go_at_call 67;refine (implOk_is (by with_reducible assumption) _).mono ?_;rintro e w1 ⟨rfl,hb1⟩))
  go_ret;exact ⟨rB (by rw [H.out,h1,h3];rfl),bSz hb0 hb1⟩
 by_cases h4 : -99999<=d
 ·by_cases h5:d<=99999
  all_goals
   go_enter Tryz.func154,Tryz.ntmps154
   go_wp2_with (first|(go_at_call 194;refine (thingOk_eq (by with_reducible assumption) _).mono ?_;rintro e w' ⟨rfl,rfl⟩)|(go_at_call 67;refine (implOk_is (by with_reducible assumption) _).mono ?_;rintro e w1 ⟨rfl,hb1⟩;obtain ⟨q0,q1,q2,q3,q4⟩:=(bk.keep hb1).five))
   go_ret;exact ⟨rB (by rw [H.out,h1,h3];simp;omega),bSz hb0 hb1⟩
 ·go_enter Tryz.func154,Tryz.ntmps154
  go_wp2_with (first|(go_at_call 194;refine (thingOk_eq (by with_reducible assumption) _).mono ?_;rintro e w' ⟨rfl,rfl⟩)|(go_at_call 67;refine (implOk_is (by with_reducible assumption) _).mono ?_;rintro e w1 ⟨rfl,hb1⟩;obtain ⟨q0,q1,q2,q3,q4⟩:=(bk.keep hb1).five))
  go_ret;exact ⟨rB (by rw [H.out,h1,h3];simp;omega),bSz hb0 hb1⟩
theorem implRow_eq {k v a b d:Int} {r:Bool} (h:rwOkB (((k,v),(a,b)),d)=r) (w:World):Calls Tryz.prog 154 #[rv k v a b d] w fun e w'=>e= .returned (.bool r)/\Below w.heap.size w w':=by
 rw [<- h];exact implRow_any k v a b d w
theorem rok_yes {l:List Rw} (h:l.length<=400) (ha:∀ j r,j<l.length->l[j]?=some r->rwOkB r=true):rokB l=true :=
 rok_mk h fun r hr=>by
  obtain ⟨i,hi,e⟩:=List.getElem_of_mem hr;exact ha i r hi (by rw [List.getElem?_eq_getElem hi,e])
theorem upto_row {l:List Rw} {k:Nat} {q:Rw} (h:∀ j r,j<k->l[j]?=some r->rwOkB r=true) (hq:l[k]?=some q) (hk:rwOkB q=true) {j:Nat} {r:Rw} (hj:j<k+1) (hr:l[j]?=some r):rwOkB r=true:=by
 by_cases e:j=k
 ·subst e;rw [hq] at hr;cases hr;exact hk
 ·exact h j r (by omega) hr
theorem specRowsOk_any (v:Value) (l:List Rw) (w:World) (h:Rs w v l) :
  Calls Tryz.prog 133 #[v] w fun e w'=>e= .returned (.bool (rokB l))/\Below w.heap.size w w':=by
 obtain ⟨a,cap,rfl,hc,hm,hn,hcells⟩:=Rs.open h;unfold maxLen at hm;have HC:=(show Hid _ from hcells);clear hcells h
 by_cases hlong:400<l.length
 ·have HK:Hid (rokB l=false):=rok_long hlong;have hl4:decide ((l.length:Int)>400)=true:=by simp;omega
  go_enter Tryz.func133,Tryz.ntmps133;go_wp2_with fail;go_ret;exact ⟨rB HK.out.symm,Below.refl _ _⟩
 have hl4:decide ((l.length:Int)>400)=false:=by simp;omega
 go_enter Tryz.func133,Tryz.ntmps133;go_wp2_with fail
 go_loopw [3] (fun i wr=>∃ k:Nat,k<=l.length/\i= .int .i64 k/\(∀ j r,j<k->l[j]?=some r->rwOkB r=true)/\Below w.heap.size w wr) (fun i _=>l.length-(intOf i).toNat)
 case atStart=>exact ⟨0,by omega,rfl,fun j r hj=>by omega,Below.refl _ _⟩
 case round =>
  obtain ⟨k,hk,rfl,hall,hb⟩:=hrel;have HA:=(show Hid _ from hall);clear hall
  by_cases hlt:k<l.length
  ·obtain ⟨g,off,K,V,A,B,D,rfl,hg,hr,c0,c1,c2,c3,c4⟩:=HC.out k hlt;have d0:=cB hb c0;have d1:=cB hb c1;have d2:=cB hb c2;have d3:=cB hb c3;have d4:=cB hb c4;have HR:=(show Hid _ from hr);clear c0 c1 c2 c3 c4 hr;cases ho:rwOkB (((K,V),(A,B)),D)
   ·have HK:Hid (rokB l=false):=rok_no (List.mem_of_getElem? HR.out) ho;go_wp2_with fail;refine (specRow_eq ho _).mono ?_;rintro e w1 ⟨rfl,hb1⟩;go_wp2_with fail;go_ret;exact ⟨rB HK.out.symm,bSz hb hb1⟩
   ·go_wp2_with fail;refine (specRow_eq ho _).mono ?_;rintro e w1 ⟨rfl,hb1⟩;have hbw:=bSz hb hb1;go_wp2_with fail;go_roundw
    case rel=>exact ⟨k+1,by omega,by go_num,fun j r hj hr=>upto_row HA.out HR.out ho hj hr,hbw⟩
    case measure=>simp [intOf];omega
  ·have HK:Hid (rokB l=true):=rok_yes (by omega) fun j r hj hr=>HA.out j r (by omega) hr;go_wp2_with fail;go_ret;exact ⟨rB HK.out.symm,hb⟩
theorem sR {l:List Rw} {r:Bool} (h:rokB l=r) {v:Value} {w:World} (hs:Rs w v l) :
  Calls Tryz.prog 133 #[v] w fun e w'=>e= .returned (.bool r)/\Below w.heap.size w w':=by
 rw [<- h];exact specRowsOk_any v l w hs
theorem implRowsOk_any (v:Value) (l:List Rw) (w:World) (h:Rs w v l) :
  Calls Tryz.prog 86 #[v] w fun e w'=>e= .returned (.bool (rokB l))/\Below w.heap.size w w':=by
 obtain ⟨a,cap,rfl,hc,hm,hn,hcells⟩:=Rs.open h;unfold maxLen at hm;have HC:=(show Hid _ from hcells);clear hcells h
 by_cases hlong:400<l.length
 ·have HK:Hid (rokB l=false):=rok_long hlong;have hl4:decide ((l.length:Int)>400)=true:=by simp;omega
  go_enter Tryz.func86,Tryz.ntmps86;go_wp2_with fail;go_ret;exact ⟨rB HK.out.symm,Below.refl _ _⟩
 have hl4:decide ((l.length:Int)>400)=false:=by simp;omega
 go_enter Tryz.func86,Tryz.ntmps86;go_wp2_with fail
 go_loopw [10] (fun i wr=>∃ k:Nat,k<=l.length/\i= .int .i64 k/\(∀ j r,j<k->l[j]?=some r->rwOkB r=true)/\Below w.heap.size w wr) (fun i _=>l.length-(intOf i).toNat)
 case atStart=>exact ⟨0,by omega,rfl,fun j r hj=>by omega,Below.refl _ _⟩
 case round =>
  obtain ⟨k,hk,rfl,hall,hb⟩:=hrel;have HA:=(show Hid _ from hall);clear hall
  by_cases hlt:k<l.length
  ·obtain ⟨g,off,K,V,A,B,D,rfl,hg,hr,c0,c1,c2,c3,c4⟩:=HC.out k hlt;have d0:=cB hb c0;have d1:=cB hb c1;have d2:=cB hb c2;have d3:=cB hb c3;have d4:=cB hb c4;have HR:=(show Hid _ from hr);clear c0 c1 c2 c3 c4 hr;cases ho:rwOkB (((K,V),(A,B)),D)
   ·have HK:Hid (rokB l=false):=rok_no (List.mem_of_getElem? HR.out) ho;go_wp2_with fail;refine (implRow_eq ho _).mono ?_;rintro e w1 ⟨rfl,hb1⟩;go_wp2_with fail;go_ret;refine ⟨rB HK.out.symm,?_⟩
    repeat' (first|(with_reducible exact Below.refl _ _)|(with_reducible assumption)|(with_reducible refine bSz ?_ (by with_reducible assumption))|(with_reducible refine bAz ?_ _)|(with_reducible refine Below.drew ?_)|(with_reducible refine bDz ?_ _)|(with_reducible refine Below.setCell ?_ ?_ _)|(simp;done)|(simp;omega)|omega)
   ·go_wp2_with fail;refine (implRow_eq ho _).mono ?_;rintro e w1 ⟨rfl,hb1⟩;have hbw:Below w.heap.size w w1:=by
     repeat' (first|(with_reducible exact Below.refl _ _)|(with_reducible assumption)|(with_reducible refine bSz ?_ (by with_reducible assumption))|(with_reducible refine bAz ?_ _)|(with_reducible refine Below.drew ?_)|(with_reducible refine bDz ?_ _)|(with_reducible refine Below.setCell ?_ ?_ _)|(simp;done)|(simp;omega)|omega)
    go_wp2_with fail;go_roundw
    case rel=>exact ⟨k+1,by omega,by go_num,fun j r hj hr=>upto_row HA.out HR.out ho hj hr,hbw⟩
    case measure=>simp [intOf];omega
  ·have HK:Hid (rokB l=true):=rok_yes (by omega) fun j r hj hr=>HA.out j r (by omega) hr;go_wp2_with fail;go_ret;exact ⟨rB HK.out.symm,hb⟩
theorem iR {l:List Rw} {r:Bool} (h:rokB l=r) {v:Value} {w:World} (hs:Rs w v l) :
  Calls Tryz.prog 86 #[v] w fun e w'=>e= .returned (.bool r)/\Below w.heap.size w w':=by
 rw [<- h];exact implRowsOk_any v l w hs
theorem szRowS_any (a:Option Addr) (n cap:Nat) (left:Int) (w:World) (hn:n<=cap) (hc:cap<=maxLen) (h0:0<=left) (h1:left<=1048576) :
  Calls Tryz.prog 110 #[.slice a n cap, .int .i64 left] w fun e w'=>e= .returned (.int .i64 (if left<n then -1 else left-n))/\w'=w:=by
 unfold maxLen at hc
 by_cases h:left<(n:Int)
 ·go_enter Tryz.func110,Tryz.ntmps110
  go_wp2
  go_ret;exact ⟨rfl,rfl⟩
 ·go_enter Tryz.func110,Tryz.ntmps110
  go_wp2
  go_ret;exact ⟨rfl,rfl⟩
theorem Bk.set5 {w:World} {g:Nat} {x0 x1 x2 x3 x4:Value} {t:TypeId} (h:Bk w g #[x0,x1,x2,x3,x4] t) (u0 u1 u2 u3 u4:Value) :
  Bk (((((w.setCell ⟨g,0,none⟩ u0).setCell ⟨g,1,none⟩ u1).setCell ⟨g,2,none⟩ u2).setCell ⟨g,3,none⟩ u3).setCell ⟨g,4,none⟩ u4) g #[u0,u1,u2,u3,u4] t :=
 ((((h.set 0 u0).set 1 u1).set 2 u2).set 3 u3).set 4 u4
theorem toRow_any (k v a b d:Int) (w:World) :
  Calls Tryz.prog 180 #[rv k v a b d] w fun e w'=>e= .returned (rv k v a b d)/\Below w.heap.size w w':=by
 go_enter Tryz.func180,Tryz.ntmps180;go_wp2_with fail;refine (toTime_any _ _ _).mono ?_;rintro e w1 ⟨rfl,hb1⟩;obtain ⟨bi,br,bo⟩:=boxed3 hb1;have hbw:Below w.heap.size w w1:=by
  repeat' (first|(with_reducible exact Below.refl _ _)|(with_reducible assumption)|(with_reducible refine bSz ?_ (by with_reducible assumption))|(with_reducible refine bAz ?_ _)|(with_reducible refine Below.drew ?_)|(with_reducible refine bDz ?_ _)|(with_reducible refine Below.setCell ?_ ?_ _)|(simp;done)|(simp;omega)|omega)
 clear hb1;generalize hO:w.heap.size+1+1=o at *;generalize hR:w.heap.size+1=r at *;have hro:r≠o:=by omega
 have hwr:w.heap.size<=r:=by omega
 have hwo:w.heap.size<=o:=by omega
 have hio:w.heap.size≠o:=by omega
 clear hO hR;obtain ⟨i0,i1,i2,i3,i4⟩:=bi.five;have bo1:=bo.set 2 (.int .i64 a);have bo2:=bo1.set 3 (.int .i64 b);have bo3:=bo2.set 4 (.int .i64 d);have br3:=((br.apart (p:=⟨o,2,none⟩) hro (.int .i64 a)).apart (p:=⟨o,3,none⟩) hro (.int .i64 b)).apart (p:=⟨o,4,none⟩) hro (.int .i64 d);have br8:=br3.set5 (.int .i64 k) (.int .i64 v) (.int .i64 a) (.int .i64 b) (.int .i64 d);have f2:=bo.free 2;have f3:=bo1.free 3;have f4:=bo2.free 4;obtain ⟨_,_,c2,_,_⟩:=bo.five;obtain ⟨_,_,_,c3,_⟩:=bo1.five;obtain ⟨_,_,_,_,c4⟩:=bo2.five;obtain ⟨x0,x1,x2,x3,x4⟩:=bo3.five;obtain ⟨_,_,_,_,i6⟩:=((bi.apart (p:=⟨o,2,none⟩) hio (.int .i64 a)).apart (p:=⟨o,3,none⟩) hio (.int .i64 b)).five;obtain ⟨r0,r1,r2,r3,r4⟩:=br3.five;have g0:=br3.free 0;have g1:=br3.free 1;have g2:=br3.free 2;have g3:=br3.free 3;have g4:=br3.free 4;go_wp2_with fail;obtain ⟨y0,y1,y2,y3,y4⟩:=br8.five;refine bodyPost_ret (v:=rv k v a b d) (by simp [results,Tryz.results180,go_sem,y0,y1,y2,y3,y4]) rfl ?_;refine ⟨rfl,?_⟩
 repeat' (first|(with_reducible exact Below.refl _ _)|(with_reducible assumption)|(with_reducible refine bSz ?_ (by with_reducible assumption))|(with_reducible refine bAz ?_ _)|(with_reducible refine Below.drew ?_)|(with_reducible refine bDz ?_ _)|(with_reducible refine Below.setCell ?_ ?_ _)|(simp;done)|(simp;omega)|omega)
abbrev set5A (c:Array Value) (o:Nat) (u0 u1 u2 u3 u4:Value):Array Value:=((((c.setIfInBounds o u0).setIfInBounds (o+1) u1).setIfInBounds (o+2) u2).setIfInBounds (o+3) u3).setIfInBounds (o+4) u4
theorem set5A_at (c:Array Value) (o:Nat) (u0 u1 u2 u3 u4:Value) (h:o+4<c.size) {j:Nat} (hj:j<5):(set5A c o u0 u1 u2 u3 u4)[o+j]?=[u0,u1,u2,u3,u4][j]?:=by
 obtain rfl|rfl|rfl|rfl|rfl:j=0\/j=1\/j=2\/j=3\/j=4:=by omega
 all_goals simp [Array.getElem?_setIfInBounds]
 all_goals omega
theorem set5A_else (c:Array Value) (o:Nat) (u0 u1 u2 u3 u4:Value) {i:Nat} (hi:i<o\/o+4<i):(set5A c o u0 u1 u2 u3 u4)[i]?=c[i]?:=by
 simp only [Array.getElem?_setIfInBounds];rw [if_neg (by omega),if_neg (by omega),if_neg (by omega),if_neg (by omega),if_neg (by omega)]
theorem FillK.step5 {c:Array Value} {l:List Rw} {k:Nat} {K V A B D:Int} (h:FillK rowC 5 c l k) (hr:l[k]?=some (((K,V),(A,B)),D)) (hs:k*5+4<c.size) :
  FillK rowC 5 (set5A c (k*5) (.int .i64 K) (.int .i64 V) (.int .i64 A) (.int .i64 B) (.int .i64 D)) l (k+1):=by
 intro i x hi hx j hj
 by_cases e:i=k
 ·subst e;rw [hr] at hx;cases hx;exact set5A_at c _ _ _ _ _ _ hs hj
 ·rw [set5A_else c _ _ _ _ _ _ (by omega)];exact h i x (by omega) hx j hj
theorem infoR:(Tryz.prog.info? 55).map (fun i=>(i.zero,i.size,i.bytes))=some (some (.agg #[.int .i64 0, .int .i64 0, .int .i64 0, .int .i64 0, .int .i64 0]),5,40):=by kernel_rfl
theorem infoI:(Tryz.prog.info? 98).map (fun i=>(i.zero,i.size,i.bytes))=some (some (.agg #[.int .i64 0, .int .i64 0, .int .i64 0]),3,24):=by kernel_rfl
theorem make_rows (n:Nat) (hn:n<=2097152):∃ M:Array Value,M.size=n*5/\∀ u:World,(Instr.makeSlice 28 (.int .i64 (n:Int)) (.int .i64 (n:Int))).run Tryz.prog u= .ok (.slice (some ⟨u.heap.size,0,none⟩) n n) (u.alloc (.cells M 55)):=by
 obtain ⟨i0,hi,hz0,hz1,hz2⟩:=info_parts infoR;refine ⟨madeCells (Value.agg #[.int .i64 0, .int .i64 0, .int .i64 0, .int .i64 0, .int .i64 0]).cells (n*i0.size),by rw [size_madeCells,hz1],fun u=>?_⟩;have:=run_make (P:=Tryz.prog) u 28 55 i0 _ Tryz.underlying28 hi hz0 .i64 .i64 (n:Int) (n:Int) (by omega) (by omega) (by rw [hz2];omega) (by omega)
 simpa using this
theorem toRowS_any (v:Value) (l:List Rw) (w:World) (h:Rs w v l) :
  Calls Tryz.prog 113 #[v] w fun e w'=>∃ (g:Nat) (c:Array Value),e= .returned (.slice (some ⟨g,0,none⟩) l.length l.length)/\w.heap.size<=g/\Bk w' g c 55/\c.size=l.length*5/\FillK rowC 5 c l l.length/\Below w.heap.size w w':=by
 obtain ⟨a,cap,rfl,hc,hm,hn,hcells⟩:=Rs.open h;unfold maxLen at hm;obtain ⟨M,hM,hmk⟩:=make_rows l.length hn;have HC:=(show Hid _ from hcells);have HM:=(show Hid _ from hM);clear hcells hM h;go_enter Tryz.func113,Tryz.ntmps113;go_wp2_with fail
 go_loopw [4] (fun i wr=>∃ (k:Nat) (c:Array Value),k<=l.length/\i= .int .i64 k/\Bk wr w.heap.size c 55/\c.size=l.length*5/\FillK rowC 5 c l k/\Below w.heap.size w wr) (fun i _=>l.length-(intOf i).toNat)
 case atStart=>exact ⟨0,M,by omega,rfl,Bk.new _ _ rfl,HM.out,fun i x hi=>by omega,bAz (Below.refl _ _) _⟩
 case round =>
  obtain ⟨k,c,hk,rfl,hbk,hcs,hfill,hb⟩:=hrel;have HF:=(show Hid _ from hfill);have HS:=(show Hid _ from hcs);clear hfill hcs
  by_cases hlt:k<l.length
  ·obtain ⟨g,off,K,V,A,B,D,rfl,hg,hr,c0,c1,c2,c3,c4⟩:=HC.out k hlt;have d0:=cB hb c0;have d1:=cB hb c1;have d2:=cB hb c2;have d3:=cB hb c3;have d4:=cB hb c4;have HR:=(show Hid _ from hr);clear c0 c1 c2 c3 c4 hr;go_wp2_with fail;refine (toRow_any _ _ _ _ _ _).mono ?_;rintro e w1 ⟨rfl,hb1⟩;have bk1:=hbk.keep hb1;have hbw:=bSz hb hb1;have hs:=HS.out;obtain ⟨y0,q0⟩:∃ y,w1.cell? ⟨w.heap.size,k*5,none⟩=some y:=⟨_,bk1.cell (Array.getElem?_eq_getElem (show k*5<c.size by omega))⟩;obtain ⟨y1,q1⟩:∃ y,w1.cell? ⟨w.heap.size,k*5+1,none⟩=some y:=⟨_,bk1.cell (Array.getElem?_eq_getElem (show k*5+1<c.size by omega))⟩;obtain ⟨y2,q2⟩:∃ y,w1.cell? ⟨w.heap.size,k*5+2,none⟩=some y:=⟨_,bk1.cell (Array.getElem?_eq_getElem (show k*5+2<c.size by omega))⟩;obtain ⟨y3,q3⟩:∃ y,w1.cell? ⟨w.heap.size,k*5+3,none⟩=some y:=⟨_,bk1.cell (Array.getElem?_eq_getElem (show k*5+3<c.size by omega))⟩;obtain ⟨y4,q4⟩:∃ y,w1.cell? ⟨w.heap.size,k*5+4,none⟩=some y:=⟨_,bk1.cell (Array.getElem?_eq_getElem (show k*5+4<c.size by omega))⟩;have f0:=bk1.free (k*5);have f1:=bk1.free (k*5+1);have f2:=bk1.free (k*5+2);have f3:=bk1.free (k*5+3);have f4:=bk1.free (k*5+4);clear hs;go_wp2_with fail;go_roundw
   case rel =>
    have bk2:=((((bk1.set (k*5) (.int .i64 K)).set (k*5+1) (.int .i64 V)).set (k*5+2) (.int .i64 A)).set (k*5+3) (.int .i64 B)).set (k*5+4) (.int .i64 D);refine ⟨k+1,_,by omega,by go_num,bk2,?_,FillK.step5 HF.out HR.out (by have:=HS.out;omega),?_⟩
    ·simpa using HS.out
    ·exact ((((hbw.setCell (by simp) _).setCell (by simp) _).setCell (by simp) _).setCell (by simp) _).setCell (by simp) _
   case measure=>simp [intOf];omega
  ·obtain rfl:k=l.length:=by omega
   go_wp2_with fail;go_ret;exact ⟨w.heap.size,c,rfl,Nat.le_refl _,hbk,HS.out,HF.out,hb⟩
theorem Bk.held {w:World} {g:Nat} {c:Array Value} {t:TypeId} (h:Bk w g c t) {i:Nat} (hi:i<c.size):∃ y,w.cell? ⟨g,i,none⟩= .some y:=⟨_,h.cell (Array.getElem?_eq_getElem hi)⟩
theorem eqTime_is (a b:Int) (w:World):Calls Tryz.prog 117 #[tv a b,tv a b] w fun e w'=>e= .returned (.bool true)/\Below w.heap.size w w':=by
 have:=eqTime_any a b a b w;rw [eqB_self] at this;exact this
theorem eqRow_same (k v a b d:Int) (w:World) :
  Calls Tryz.prog 116 #[rv k v a b d,rv k v a b d] w fun e w'=>e= .returned (.bool true)/\Below w.heap.size w w':=by
 go_enter Tryz.func116,Tryz.ntmps116;go_wp2_with fail;refine (eqTime_is _ _ _).mono ?_;rintro e w1 ⟨rfl,hb1⟩;obtain ⟨b0,b1⟩:=boxed2 hb1;obtain ⟨x0,x1,x2,x3,x4⟩:=b0.five;obtain ⟨y0,y1,y2,y3,y4⟩:=b1.five;go_wp2_with fail;go_ret;refine ⟨rfl,?_⟩
 repeat' (first|(with_reducible exact Below.refl _ _)|(with_reducible assumption)|(with_reducible refine bSz ?_ (by with_reducible assumption))|(with_reducible refine bAz ?_ _)|(with_reducible refine Below.drew ?_)|(with_reducible refine bDz ?_ _)|(with_reducible refine Below.setCell ?_ ?_ _)|(simp;done)|(simp;omega)|omega)
theorem eqRowS_same (v v':Value) (l:List Rw) (w:World) (h:Rs w v l) (h':Rs w v' l) :
  Calls Tryz.prog 47 #[v,v'] w fun e w'=>e= .returned (.bool true)/\Below w.heap.size w w':=by
 obtain ⟨a,cap,rfl,hc,hm,hn,hcells⟩:=Rs.open h;obtain ⟨a',cap',rfl,hc',hm',hn',hcells'⟩:=Rs.open h';unfold maxLen at hm hm';have HC:=(show Hid _ from hcells);have HC':=(show Hid _ from hcells');clear hcells hcells' hn' h h';go_enter Tryz.func47,Tryz.ntmps47;go_wp2_with fail
 go_loopw [5] (fun i wr=>∃ k:Nat,k<=l.length/\i= .int .i64 k/\Below w.heap.size w wr) (fun i _=>l.length-(intOf i).toNat)
 case atStart=>exact ⟨0,by omega,rfl,Below.refl _ _⟩
 case round =>
  obtain ⟨k,hk,rfl,hb⟩:=hrel
  by_cases hlt:k<l.length
  ·obtain ⟨g,off,K,V,A,B,D,rfl,hg,hr,c0,c1,c2,c3,c4⟩:=HC.out k hlt;obtain ⟨g',off',K',V',A',B',D',rfl,hg',hr',p0,p1,p2,p3,p4⟩:=HC'.out k hlt;rw [hr] at hr';cases hr';clear hr;have d0:∀ p:Bel wr,p.ww.cell? ⟨g,off+k*5,none⟩=some (.int .i64 K):=fun p=>cB p.below (cB hb c0);have d1:∀ p:Bel wr,p.ww.cell? ⟨g,off+k*5+1,none⟩=some (.int .i64 V):=fun p=>cB p.below (cB hb c1);have d2:∀ p:Bel wr,p.ww.cell? ⟨g,off+k*5+2,none⟩=some (.int .i64 A):=fun p=>cB p.below (cB hb c2);have d3:∀ p:Bel wr,p.ww.cell? ⟨g,off+k*5+3,none⟩=some (.int .i64 B):=fun p=>cB p.below (cB hb c3);have d4:∀ p:Bel wr,p.ww.cell? ⟨g,off+k*5+4,none⟩=some (.int .i64 D):=fun p=>cB p.below (cB hb c4);have e0:∀ p:Bel wr,p.ww.cell? ⟨g',off'+k*5,none⟩=some (.int .i64 K):=fun p=>cB p.below (cB hb p0);have e1:∀ p:Bel wr,p.ww.cell? ⟨g',off'+k*5+1,none⟩=some (.int .i64 V):=fun p=>cB p.below (cB hb p1);have e2:∀ p:Bel wr,p.ww.cell? ⟨g',off'+k*5+2,none⟩=some (.int .i64 A):=fun p=>cB p.below (cB hb p2);have e3:∀ p:Bel wr,p.ww.cell? ⟨g',off'+k*5+3,none⟩=some (.int .i64 B):=fun p=>cB p.below (cB hb p3);have e4:∀ p:Bel wr,p.ww.cell? ⟨g',off'+k*5+4,none⟩=some (.int .i64 D):=fun p=>cB p.below (cB hb p4);clear c0 c1 c2 c3 c4 p0 p1 p2 p3 p4;have ik:((k:Int)<(l.length:Int)):=by omega
   have hne:=bel_some wr;go_wp2_with fail
   (refine wBz (by kernel_rfl) (by kernel_rfl) ?_;(repeat (go_big_quiet_step ((first|(go_at_call 116;exact clz (eqRow_same _ _ _ _ _ _))))));refine wpQuiet_nil ?_)
   intro w1 hw1
   replace hw1:=bOz hw1
   have hbw:=bSz hb hw1;go_wp2_with fail;go_roundw
   case rel=>exact ⟨k+1,by omega,by go_num,hbw⟩
   case measure=>simp [intOf];omega
  ·go_wp2_with fail;go_ret;exact ⟨rfl,hb⟩
def markR (a:Int) (i:Nat):Rw:=(((a+5*(i:Int),a+5*(i:Int)+1),(a+5*(i:Int)+1+1,a+5*(i:Int)+1+1+1)),a+5*(i:Int)+1+1+1+1)
def marksR (a:Int) (n:Nat):List Rw:=(List.range n).map (markR a)
theorem marksR_len (a:Int) (n:Nat):(marksR a n).length=n:=by simp [marksR]
theorem marksR_at (a:Int) {n i:Nat} (h:i<n):(marksR a n)[i]?=some (((a+5*(i:Int),a+5*(i:Int)+1),(a+5*(i:Int)+1+1,a+5*(i:Int)+1+1+1)),a+5*(i:Int)+1+1+1+1):=by simp [marksR,markR,h]
theorem markRB_any (g n cap:Nat) (c:Array Value) (a:Int) (w:World) (h:Bk w g c 55) (hs:c.size=cap*5) (hc:n<=cap) (hn:n<=2097152) (h0:0<=a) (h1:a<=1000000000) :
  Calls Tryz.prog 51 #[.slice (some ⟨g,0,none⟩) n cap, .int .i64 a] w fun e w' =>
   ∃ c':Array Value,e= .returned (.int .i64 (a+5*(n:Int)))/\Bk w' g c' 55/\c'.size=cap*5/\FillK rowC 5 c' (marksR a n) n/\Bx g w w':=by
 go_enter Tryz.func51,Tryz.ntmps51;go_wp2_with fail
 go_loopw [1,5] (fun q i wr=>∃ (k:Nat) (c':Array Value),k<=n/\i= .int .i64 k/\q= .int .i64 (a+5*(k:Int))/\Bk wr g c' 55/\c'.size=cap*5/\FillK rowC 5 c' (marksR a n) k/\Bx g w wr) (fun _ i _=>n-(intOf i).toNat)
 case atStart=>exact ⟨0,c,by omega,rfl,by simp,h,hs,fun i x hi=>by omega,Bx.refl _ _⟩
 case round =>
  clear h hs;obtain ⟨k,c',hk,rfl,rfl,hbk,hcs,hfill,hb⟩:=hrel;have HF:=(show Hid _ from hfill);have HS:=(show Hid _ from hcs)
  by_cases hlt:k<n
  ·have EM:=(show Hid _ from marksR_at a hlt);clear hfill hcs;have bk1:=hbk.set (k*5) (.int .i64 (a+5*(k:Int)));have hx1:=hb.setG (p:=⟨g,k*5,none⟩) rfl (.int .i64 (a+5*(k:Int)));obtain ⟨y0,q0⟩:=hbk.held (i:=k*5) (by have:=HS.out;(try simp only [Array.size_setIfInBounds]);omega);have f0:=hbk.free (k*5)
   go_upto_region 5 with fail
   generalize World.setCell _ _ _=w1 at *;clear q0 f0 hbk hb;have bk2:=bk1.set (k*5+1) (.int .i64 (a+5*(k:Int)+1));have hx2:=hx1.setG (p:=⟨g,k*5+1,none⟩) rfl (.int .i64 (a+5*(k:Int)+1));obtain ⟨y1,q1⟩:=bk1.held (i:=k*5+1) (by have:=HS.out;(try simp only [Array.size_setIfInBounds]);omega);have f1:=bk1.free (k*5+1)
   go_upto_region 7 with fail
   generalize World.setCell _ _ _=w2 at *;clear q1 f1 bk1 hx1;have bk3:=bk2.set (k*5+2) (.int .i64 (a+5*(k:Int)+1+1));have hx3:=hx2.setG (p:=⟨g,k*5+2,none⟩) rfl (.int .i64 (a+5*(k:Int)+1+1));obtain ⟨y2,q2⟩:=bk2.held (i:=k*5+2) (by have:=HS.out;(try simp only [Array.size_setIfInBounds]);omega);have f2:=bk2.free (k*5+2)
   go_upto_region 9 with fail
   generalize World.setCell _ _ _=w3 at *;clear q2 f2 bk2 hx2;have bk4:=bk3.set (k*5+3) (.int .i64 (a+5*(k:Int)+1+1+1));have hx4:=hx3.setG (p:=⟨g,k*5+3,none⟩) rfl (.int .i64 (a+5*(k:Int)+1+1+1));obtain ⟨y3,q3⟩:=bk3.held (i:=k*5+3) (by have:=HS.out;(try simp only [Array.size_setIfInBounds]);omega);have f3:=bk3.free (k*5+3)
   go_upto_region 11 with fail
   generalize World.setCell _ _ _=w4 at *;clear q3 f3 bk3 hx3;have bk5:=bk4.set (k*5+4) (.int .i64 (a+5*(k:Int)+1+1+1+1));have hx5:=hx4.setG (p:=⟨g,k*5+4,none⟩) rfl (.int .i64 (a+5*(k:Int)+1+1+1+1));obtain ⟨y4,q4⟩:=bk4.held (i:=k*5+4) (by have:=HS.out;(try simp only [Array.size_setIfInBounds]);omega);have f4:=bk4.free (k*5+4)
   go_upto_region 13 with fail
   generalize World.setCell _ _ _=w5 at *;clear q4 f4 bk4 hx4;go_wp2_with fail;go_roundw
   case rel =>
    refine ⟨k+1,_,by omega,by go_num,by go_num,bk5,?_,FillK.step5 HF.out EM.out (by have:=HS.out;omega),hx5⟩
    simpa using HS.out
   case measure=>simp [intOf];omega
  ·obtain rfl:k=n:=by omega
   go_wp2_with fail;go_ret;exact ⟨c',rfl,hbk,HS.out,HF.out,hb⟩
theorem markRN_any (a:Int) (w:World) :
  Calls Tryz.prog 51 #[.slice none 0 0, .int .i64 a] w fun e w'=>e= .returned (.int .i64 a)/\w'=w:=by
 go_enter Tryz.func51,Tryz.ntmps51;go_wp2_with fail;refine wp_loop_rounds 1 ?_;rw [rounds_succ];go_wp2_with fail;go_ret;exact ⟨rfl,rfl⟩
theorem heldR_any (v:Value) (n:Nat) (a:Int) (w:World) (h:Rs w v (marksR a n)) (h0:0<=a) (h1:a<=1000000000) :
  Calls Tryz.prog 53 #[v, .int .i64 a] w fun e w'=>e= .returned (.int .i64 (a+5*(n:Int)))/\Below w.heap.size w w':=by
 obtain ⟨ad,cap,rfl,hc,hm,hn,hcells⟩:=Rs.open h;rw [marksR_len] at hc hn hcells ⊢;unfold maxLen at hm;have HC:=(show Hid _ from hcells);clear hcells h;go_enter Tryz.func53,Tryz.ntmps53;go_wp2_with fail
 go_loopw [1,5] (fun q i wr=>∃ k:Nat,k<=n/\i= .int .i64 k/\q= .int .i64 (a+5*(k:Int))/\Below w.heap.size w wr) (fun _ i _=>n-(intOf i).toNat)
 case atStart=>exact ⟨0,by omega,rfl,by simp,Below.refl _ _⟩
 case round =>
  obtain ⟨k,hk,rfl,rfl,hb⟩:=hrel
  by_cases hlt:k<n
  ·obtain ⟨g,off,K,V,A,B,D,rfl,hg,hr,c0,c1,c2,c3,c4⟩:=HC.out k hlt;rw [marksR_at a hlt] at hr;cases hr;have d0:=cB hb c0;have d1:=cB hb c1;have d2:=cB hb c2;have d3:=cB hb c3;have d4:=cB hb c4;clear c0 c1 c2 c3 c4;go_wp2_with fail;go_roundw
   case rel=>exact ⟨k+1,by omega,by go_num,by go_num,hb⟩
   case measure=>simp [intOf];omega
  ·obtain rfl:k=n:=by omega
   go_wp2_with fail;go_ret;exact ⟨rfl,hb⟩
open Go.ChangeShapes Go.WideShapes Go.ChangeAt Go.Joins
def RsArg (w:World) (a:Option Addr) (len cap:Nat):Prop :=
 len<=cap/\cap<=maxLen/\∃ q:Nat->Rw,∀ i:Nat,i<len->∃ g off,a=some ⟨g,off,none⟩/\g<w.heap.size/\∀ j,j<5->w.cell? ⟨g,off+i*5+j,none⟩=(rowC (q i))[j]?
theorem RsArg.rs {w:World} {a:Option Addr} {len cap:Nat} (h:RsArg w a len cap) (hn:len<=2097152):∃ l:List Rw,l.length=len/\Rs w (.slice a len cap) l:=by
 obtain ⟨h1,h2,q,h3⟩:=h;refine ⟨(List.range len).map q,by simp,a,cap,by simp,by simpa using h1,h2,by simpa using hn,fun i x hi=>?_⟩;have hi':i<len:=by simpa using (List.getElem?_eq_some_iff.1 hi).1
 have:x=q i:=by simp [hi'] at hi;exact hi.symm
 subst this;exact h3 i hi'
theorem list5 {α:Type} {l:List α} (h:l.length=5):∃ a b c d e,l=[a,b,c,d,e] :=
 match l,h with
 | [a,b,c,d,e],_=>⟨a,b,c,d,e,rfl⟩
theorem cellsR:Tryz.prog.cellsOf 211=5:=by kernel_rfl
theorem RsArg.of_trod {H:Type} {enc:TypeId×Value->H} {w:World} {base:Nat} {sp:Nat->Bool} {held:Bool} {a:Option Addr} {len cap:Nat} {d:DataW H} {p:List MemPlace}
  (h:DataW.Trod enc Tryz.prog w base sp held 75 (.slice a len cap) d p):RsArg w a len cap:=by
 obtain ⟨fuel,hf⟩:=h
 rcases Go.Deep.open_slice Tryz.underlying75 hf with ⟨hcs,_⟩|⟨x,l,c,m,n,D,Pl,hcs,_,hl,hm,hmm,_,hx⟩
 ·simp [Value.cells] at hcs;obtain ⟨rfl,rfl,rfl⟩:=hcs;exact ⟨Nat.le_refl _,by unfold maxLen;omega,fun _=>(((0,0),(0,0)),0),fun i hi=>by omega⟩
 ·simp [Value.cells] at hcs;obtain ⟨rfl,rfl,rfl⟩:=hcs;have hlm:len<=m:=by rw [hmm];split<;>omega
  have each:∀ i,i<len->∃ q:Rw,∀ j,j<5->w.cell? (x.add (i*5+j))=(rowC q)[j]?:=by
   intro i hi;obtain ⟨cs',h1,h2⟩:=hx i (by omega);rw [cellsR] at h1;obtain ⟨_,hlen,hcell⟩:=World.cells?_some h1;obtain ⟨y0,y1,y2,y3,k,_,_,t0,t1,t2,t3⟩:=trod_struct4 Tryz.underlying211 h2;obtain ⟨v0,v1,v2,v3,v4,rfl⟩:=list5 hlen;simp [cellsI,cellsT] at t0 t1 t2 t3;obtain ⟨z0,z1,k',_,_,s0,s1⟩:=trod_struct2 Tryz.underlying87 t2;simp [cellsI] at s0 s1;obtain ⟨n0,e0,_,_⟩:=DataW.trod_int Tryz.underlying3 t0;obtain ⟨n1,e1,_,_⟩:=DataW.trod_int Tryz.underlying3 t1;obtain ⟨n2,e2,_,_⟩:=DataW.trod_int Tryz.underlying3 s0;obtain ⟨n3,e3,_,_⟩:=DataW.trod_int Tryz.underlying3 s1;obtain ⟨n4,e4,_,_⟩:=DataW.trod_int Tryz.underlying3 t3;simp at e0 e1 e2 e3 e4;refine ⟨(((n0,n1),(n2,n3)),n4),fun j hj=>?_⟩;have:=hcell j hj;rw [Go.Deep.add_add] at this;rw [this,e0,e1,e2,e3,e4]
  obtain ⟨q,hq⟩:=Go.Deep.choose_lt each;refine ⟨hl,hm,q,fun i hi=>?_⟩;obtain ⟨b,off,spot⟩:=x;have hspot:spot=none:=by
   have h0:=World.cell?_spot (hq 0 (by omega) 0 (by omega))
   simpa [Addr.add] using h0
  subst hspot;have c0:=hq i hi 0 (by omega);rw [add_plain] at c0;refine ⟨b,off,rfl,lC c0,fun j hj=>?_⟩;have c1:=hq i hi j hj;rw [add_plain,<-Nat.add_assoc] at c1;exact c1
section
end
end Go.Proofs.YtbdpcngcbnoioaaGreatDoor
