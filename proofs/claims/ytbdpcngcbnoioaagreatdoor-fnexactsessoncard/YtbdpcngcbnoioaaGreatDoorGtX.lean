import Derived.Test.YtbdpcngcbnoioaaGreatDoorGs7
set_option maxRecDepth 100000
set_option maxHeartbeats 16000000
namespace Go.Proofs.YtbdpcngcbnoioaaGreatDoor
def itOkB (r:It):Bool:=inB r.1.1 0 3&&inB r.1.2 0 99&&decide (r.2≠0)&&inB r.2 (-1099511627776) 1099511627776
def sstep (l:List It) (i:Nat):Bool :=
 match l[i]? with
 | none=>true
 | some r=>itOkB r&&(match i with|0=>true|j+1=>match l[j]? with|none=>true|some q=>ltT q.1 r.1)
def sokB (l:List It):Bool:=decide (l.length<=400)&&(List.range l.length).all (sstep l)
theorem sok_len {l:List It} (h:sokB l=true):l.length<=400:=by simp [sokB] at h;exact h.1
theorem sok_no {l:List It} {i:Nat} (hi:i<l.length) (h:sstep l i=false):sokB l=false:=by
 unfold sokB;have:(List.range l.length).all (sstep l)=false:=by
  rw [List.all_eq_false];exact ⟨i,by simpa using hi,by simp [h]⟩
 rw [this,Bool.and_false]
theorem sok_long {l:List It} (h:400<l.length):sokB l=false:=by simp [sokB];omega
theorem sok_mk {l:List It} (h:l.length<=400) (ha:∀ i,i<l.length->sstep l i=true):sokB l=true:=by
 unfold sokB;rw [Bool.and_eq_true,List.all_eq_true];exact ⟨by simpa using h,fun j hj=>ha j (by simpa using hj)⟩
theorem sstep_first {l:List It} {r:It} (h:l[0]?=some r):sstep l 0=itOkB r:=by unfold sstep;rw [h];simp
theorem sstep_next {l:List It} {r q:It} {j:Nat} (h:l[j+1]?=some r) (h':l[j]?=some q):sstep l (j+1)=(itOkB r&&ltT q.1 r.1):=by
 unfold sstep;rw [h];simp [h']
theorem sok_st {l:List It} (h:sokB l=true) {i:Nat} (hi:i<l.length):sstep l i=true:=by
 simp only [sokB,Bool.and_eq_true,List.all_eq_true] at h;exact h.2 i (by simpa using hi)
theorem sok_at {l:List It} (h:sokB l=true) {r:It} (hr:r∈l):itOkB r=true:=by
 obtain ⟨i,hi,e⟩:=List.getElem_of_mem hr;have hs:=sok_st h hi;unfold sstep at hs;rw [List.getElem?_eq_getElem hi,e] at hs;simp only [Bool.and_eq_true] at hs;exact hs.1
theorem srtT_of_steps {l:List It} (h:∀ i r q,l[i+1]?=some r->l[i]?=some q->ltT q.1 r.1=true):Srt ltT l:=by
 have key:∀ d i (h1:i+d+1<l.length),ltT (l[i]'(by omega)).1 l[i+d+1].1=true:=by
  intro d
  induction d with
  | zero=>intro i h1;exact h i _ _ (List.getElem?_eq_getElem h1) (List.getElem?_eq_getElem (by omega))
  | succ d ih =>
   intro i h1;exact ltT_ord.trans _ _ _ (ih i (by omega)) (h (i+d+1) _ _ (List.getElem?_eq_getElem (by omega)) (List.getElem?_eq_getElem (by omega)))
 refine List.pairwise_iff_getElem.2 fun i j hi hj hij=>?_;obtain ⟨d,rfl⟩:∃ d,j=i+d+1:=⟨j-i-1,by omega⟩;exact key d i hj
theorem sok_srt {l:List It} (h:sokB l=true):Srt ltT l:=srtT_of_steps fun i r q h1 h2=>by
 have:=sok_st h (List.getElem?_eq_some_iff.1 h1).1;rw [sstep_next h1 h2] at this;simp at this;exact this.2
theorem it_parts {r:It} (h:itOkB r=true):0<=r.1.1/\r.1.1<=3/\0<=r.1.2/\r.1.2<=99/\r.2≠0 /\ -1099511627776<=r.2/\r.2<=1099511627776:=by
 simp only [itOkB,inB,Bool.and_eq_true,decide_eq_true_eq] at h;omega
theorem it_mk {r:It} (h:0<=r.1.1/\r.1.1<=3/\0<=r.1.2/\r.1.2<=99/\r.2≠0 /\ -1099511627776<=r.2/\r.2<=1099511627776):itOkB r=true:=by
 simp only [itOkB,inB,Bool.and_eq_true,decide_eq_true_eq];omega
theorem sok_of {l:List It} (hl:l.length<=400) (h:∀ r∈l,itOkB r=true) (hs:Srt ltT l):sokB l=true:=sok_mk hl fun i hi=>by
 have hr:=List.getElem?_eq_getElem hi;have h0:=h _ (List.getElem_mem hi)
 match i,hi,hr,h0 with
 | 0,hi,hr,h0=>rw [sstep_first hr];exact h0
 | j+1,hi,hr,h0 =>
  have hq:=List.getElem?_eq_getElem (l:=l) (i:=j) (by omega);rw [sstep_next hr hq,Bool.and_eq_true];exact ⟨h0,List.pairwise_iff_getElem.1 hs j (j+1) (by omega) hi (by omega)⟩
theorem sok_nil:sokB []=true:=by decide
def itK (s:Int×Int):Prop:=0<=s.1/\s.1<=3/\0<=s.2/\s.2<=99
theorem sum_sok {l:List It} (hl:l.length<=400) (h:∀ r∈l,itK r.1) (ha:absum l<=1099511627776):sokB (sumL ltT l)=true :=
 sok_of (Nat.le_trans (sumL_len _ _) hl) (fun r hr=>by
  obtain ⟨q,hq,e⟩:=sumL_key hr;obtain ⟨h1,h2,h3,h4⟩:=h q hq;have hb:=sumL_abs ltT_ord hr;rw [e] at h1 h2 h3 h4;exact it_mk ⟨h1,h2,h3,h4,sumL_nz _ _ r hr,by omega,by omega⟩) (sumL_srt ltT_ord _)
theorem sok_k {l:List It} (h:sokB l=true):∀ r∈l,itK r.1:=fun r hr=>by
 obtain ⟨h1,h2,h3,h4,_⟩:=it_parts (sok_at h hr);exact ⟨h1,h2,h3,h4⟩
theorem sok_abs {l:List It} (h:sokB l=true):absum l<=1099511627776*400:=by
 have h1:=absum_le (l:=l) (c:=1099511627776) fun r hr=>by have:=it_parts (sok_at h hr);omega
 have h2:=sok_len h;have:(1099511627776:Int)*l.length<=1099511627776*400:=by omega
 omega
def wayM (how:Int) (s:Int×Int):Int×Int :=
 if how=1 then (s.2%4,s.2-s.2%4+s.1) else if how=2 then (s.1,(s.2+1)%100) else if how=3 then (s.2%4,s.2) else if how=4 then (0,s.2) else s
def wayP (how:Int) (s:Int×Int):Bool :=
 if how=5 then decide (s.2%2=0) else if how=6 then decide (s.1%2=0) else if how=7 then decide (s.2<10) else true
def negI (l:List It):List It:=l.map fun r=>(r.1,-r.2)
def pv (a b:Int):Int:=(10*a+b)%100
def onceT (l:List It):List It:=(l.filter fun r=>decide (0<r.2)).map fun r=>(r.1,1)
def onceS (l:List It):List It:=if sokB l then onceT l else []
def keyN (l:List It) (k:Int):Int:=wsum (fun s:Int×Int=>if s.1=k then 1 else 0) l
def kC (l:List It) (k:Int):List It:=if keyN l k=0 then [] else [((k,keyN l k%100),1)]
def countS (l:List It):List It:=if sokB l then kC l 0++kC l 1++kC l 2++kC l 3 else []
def leastK (l:List It) (k:Int):List It:=((onceT l).filter fun r=>decide (r.1.1=k)).take 1
def leastS (l:List It):List It:=if sokB l then leastK l 0++leastK l 1++leastK l 2++leastK l 3 else []
theorem neg_totI (l:List It) (s:Int×Int):tot (negI l) s =-tot l s:=tot_neg l s
theorem way_k {how:Int} {s:Int×Int} (h:itK s):itK (wayM how s):=by
 obtain ⟨h1,h2,h3,h4⟩:=h;unfold wayM itK
 split
 ·simp only;omega
 ·split
  ·simp only;omega
  ·split
   ·simp only;omega
   ·split
    ·simp only;omega
    ·exact ⟨h1,h2,h3,h4⟩
theorem keyN_snoc (l:List It) (r:It) (k:Int):keyN (l++[r]) k=keyN l k+(if r.1.1=k then r.2 else 0):=by
 unfold keyN;rw [wsum_append];simp only [wsum];split<;>simp
theorem keyN_abs (l:List It) (k:Int) : -absum l<=keyN l k/\keyN l k<=absum l:=by
 induction l with
 | nil=>simp [keyN,wsum,absum]
 | cons r l ih =>
  unfold keyN at ih ⊢;simp only [wsum,absum]
  split<;>simp only [Int.mul_one,Int.mul_zero]<;>omega
theorem countK_mem {l:List It} {k:Int} {r:It} (h:r∈kC l k):r=((k,keyN l k%100),1)/\keyN l k≠0:=by
 unfold kC at h
 split at h
 ·simp at h
 ·exact ⟨by simpa using h,by assumption⟩
theorem countK_len (l:List It) (k:Int):(kC l k).length<=1:=by unfold kC;split<;>simp
theorem countS_no {l:List It} (h:sokB l=false):countS l=[]:=by simp [countS,h]
theorem countS_yes {l:List It} (h:sokB l=true):countS l=kC l 0++kC l 1++kC l 2++kC l 3:=by simp [countS,h]
theorem countS_len (l:List It):(countS l).length<=4:=by
 unfold countS;split
 ·have:=countK_len l 0;have:=countK_len l 1;have:=countK_len l 2;have:=countK_len l 3;simp only [List.length_append];omega
 ·simp
theorem countS_mem {l:List It} {r:It} (h:r∈countS l):r.2=1/\keyN l r.1.1≠0/\r.1.2=keyN l r.1.1%100/\0<=r.1.1/\r.1.1<=3:=by
 unfold countS at h
 split at h
 ·simp only [List.mem_append] at h
  rcases h with ((h|h)|h)|h<;>obtain ⟨rfl,hn⟩:=countK_mem h<;>exact ⟨rfl,hn,rfl,by simp,by simp⟩
 ·simp at h
theorem parts_pair {f:Int->List It} (h1:∀ k,∀ r∈f k,r.1.1=k) {R:It->It->Prop} (hR:∀ k,(f k).Pairwise R) (hlt:∀ p q:It,p.1.1<q.1.1->R p q):(f 0++f 1++f 2++f 3).Pairwise R:=by
 have key:∀ {p q:It} {a b:Int},p∈f a->q∈f b->a<b->R p q:=fun hp hq hab=>hlt _ _ (by rw [h1 _ _ hp,h1 _ _ hq];exact hab);rw [List.pairwise_append,List.pairwise_append,List.pairwise_append];refine ⟨⟨⟨hR 0,hR 1,fun p hp q hq=>key hp hq (by omega)⟩,hR 2,fun p hp q hq=>?_⟩,hR 3,fun p hp q hq=>?_⟩
 ·rcases List.mem_append.1 hp with hp|hp<;>exact key hp hq (by omega)
 ·simp only [List.mem_append] at hp
  rcases hp with (hp|hp)|hp<;>exact key hp hq (by omega)
theorem countS_up (l:List It):(countS l).Pairwise fun p q=>p.1.1<q.1.1:=by
 unfold countS;split
 ·refine parts_pair (f:=kC l) (fun k r hr=>?_) (fun k=>?_) (fun _ _ h=>h)
  ·rw [(countK_mem hr).1]
  ·unfold kC;split<;>simp
 ·simp
theorem ltT_key {p q:It} (h:p.1.1<q.1.1):ltT p.1 q.1=true:=by simp [ltT];exact .inl h
theorem split_keys {l:List It} (hs:Srt ltT l) (hk:∀ r∈l,0<=r.1.1/\r.1.1<=3) :
  (l.filter fun r=>decide (r.1.1=0))++(l.filter fun r=>decide (r.1.1=1))++(l.filter fun r=>decide (r.1.1=2))++(l.filter fun r=>decide (r.1.1=3))=l:=by
 refine srt_ext ltT_ord ?_ hs fun r=>?_
 ·exact parts_pair (f:=fun k=>l.filter fun r=>decide (r.1.1=k)) (fun k r hr=>by simpa using (List.mem_filter.1 hr).2) (fun k=>List.Pairwise.filter _ hs) (fun _ _ h=>ltT_key h)
 ·simp only [List.mem_append,List.mem_filter,decide_eq_true_eq];constructor
  ·rintro (((h|h)|h)|h)<;>exact h.1
  ·intro h;have:=hk r h;have e:r.1.1=0\/r.1.1=1\/r.1.1=2\/r.1.1=3:=by omega
   rcases e with e|e|e|e
   ·exact .inl (.inl (.inl ⟨h,e⟩))
   ·exact .inl (.inl (.inr ⟨h,e⟩))
   ·exact .inl (.inr ⟨h,e⟩)
   ·exact .inr ⟨h,e⟩
theorem once_mem {l:List It} {r:It}:r∈onceT l↔r.2=1/\∃ q∈l,0<q.2/\q.1=r.1:=by
 unfold onceT;simp only [List.mem_map,List.mem_filter,decide_eq_true_eq];constructor
 ·rintro ⟨q,⟨h1,h2⟩,rfl⟩;exact ⟨rfl,q,h1,h2,rfl⟩
 ·rintro ⟨h1,q,h2,h3,h4⟩;exact ⟨q,⟨h2,h3⟩,Prod.ext h4 h1.symm⟩
theorem once_srt {l:List It} (h:Srt ltT l):Srt ltT (onceT l):=by
 unfold Srt onceT;rw [List.pairwise_map];exact List.Pairwise.filter _ h
theorem once_len (l:List It):(onceT l).length<=l.length:=by unfold onceT;rw [List.length_map];exact List.length_filter_le _ _
theorem once_sok {l:List It} (h:sokB l=true):sokB (onceT l)=true :=
 sok_of (Nat.le_trans (once_len l) (sok_len h)) (fun r hr=>by
  obtain ⟨h1,q,h2,h3,h4⟩:=once_mem.1 hr;have:=it_parts (sok_at h h2);rw [h4] at this;exact it_mk (by omega)) (once_srt (sok_srt h))
theorem onceS_no {l:List It} (h:sokB l=false):onceS l=[]:=by simp [onceS,h]
theorem onceS_yes {l:List It} (h:sokB l=true):onceS l=onceT l:=by simp [onceS,h]
theorem onceS_len (l:List It):(onceS l).length<=400:=by
 unfold onceS;split
 ·rename_i h;exact Nat.le_trans (once_len l) (sok_len h)
 ·simp
theorem once_keys {l:List It} (h:sokB l=true):∀ r∈onceT l,0<=r.1.1/\r.1.1<=3:=fun r hr=>by
 have:=it_parts (sok_at (once_sok h) hr);omega
theorem take1_mem {l:List It} (hs:Srt ltT l) (r:It):r∈l.take 1↔r∈l/\∀ q∈l,ltT q.1 r.1=false:=by
 cases l with
 | nil=>simp
 | cons x l =>
  obtain ⟨hx,_⟩:=List.pairwise_cons.1 hs;simp only [List.take_succ_cons,List.take_zero,List.mem_singleton];constructor
  ·rintro rfl;refine ⟨by simp,fun q hq=>?_⟩
   rcases List.mem_cons.1 hq with rfl|hq
   ·exact ltT_ord.irr _
   ·cases e:ltT q.1 r.1
    ·rfl
    ·have:=ltT_ord.trans _ _ _ e (hx q hq);rw [ltT_ord.irr] at this;cases this
  ·rintro ⟨h1,h2⟩
   rcases List.mem_cons.1 h1 with rfl|h1
   ·rfl
   ·have:=h2 x (by simp);rw [hx r h1] at this;cases this
theorem leastK_mem {l:List It} (hs:Srt ltT l) (k:Int) (r:It):r∈leastK l k↔r∈onceT l/\r.1.1=k/\∀ q∈onceT l,q.1.1=k->ltT q.1 r.1=false:=by
 unfold leastK;rw [take1_mem (List.Pairwise.filter _ (once_srt hs))];simp only [List.mem_filter,decide_eq_true_eq];constructor
 ·rintro ⟨⟨h1,h2⟩,h3⟩;exact ⟨h1,h2,fun q hq e=>h3 q ⟨hq,e⟩⟩
 ·rintro ⟨h1,h2,h3⟩;exact ⟨⟨h1,h2⟩,fun q hq=>h3 q hq.1 hq.2⟩
theorem leastK_len (l:List It) (k:Int):(leastK l k).length<=1:=by unfold leastK;rw [List.length_take];omega
theorem leastK_pair {R:It->It->Prop} (l:List It) (k:Int):(leastK l k).Pairwise R:=by
 have:=leastK_len l k;generalize leastK l k=m at this
 match m,this with
 | [],_=>simp
 | [x],_=>simp
theorem leastS_no {l:List It} (h:sokB l=false):leastS l=[]:=by simp [leastS,h]
theorem leastS_yes {l:List It} (h:sokB l=true):leastS l=leastK l 0++leastK l 1++leastK l 2++leastK l 3:=by simp [leastS,h]
theorem leastS_len (l:List It):(leastS l).length<=4:=by
 unfold leastS;split
 ·have:=leastK_len l 0;have:=leastK_len l 1;have:=leastK_len l 2;have:=leastK_len l 3;simp only [List.length_append];omega
 ·simp
theorem leastS_mem {l:List It} (h:sokB l=true) (r:It):r∈leastS l↔r∈onceT l/\∀ q∈onceT l,q.1.1=r.1.1->ltT q.1 r.1=false:=by
 rw [leastS_yes h];have hs:=sok_srt h;simp only [List.mem_append,leastK_mem hs];constructor
 ·rintro (((⟨h1,h2,h3⟩|⟨h1,h2,h3⟩)|⟨h1,h2,h3⟩)|⟨h1,h2,h3⟩)<;>exact ⟨h1,fun q hq e=>h3 q hq (by omega)⟩
 ·rintro ⟨h1,h2⟩;have:=once_keys h r h1;have e:r.1.1=0\/r.1.1=1\/r.1.1=2\/r.1.1=3:=by omega
  rcases e with e|e|e|e
  ·exact .inl (.inl (.inl ⟨h1,e,fun q hq e'=>h2 q hq (by omega)⟩))
  ·exact .inl (.inl (.inr ⟨h1,e,fun q hq e'=>h2 q hq (by omega)⟩))
  ·exact .inl (.inr ⟨h1,e,fun q hq e'=>h2 q hq (by omega)⟩)
  ·exact .inr ⟨h1,e,fun q hq e'=>h2 q hq (by omega)⟩
theorem leastS_up (l:List It):(leastS l).Pairwise fun p q=>p.1.1<q.1.1:=by
 unfold leastS;split
 ·refine parts_pair (f:=leastK l) (fun k r hr=>?_) (fun k=>leastK_pair l k) (fun _ _ h=>h);unfold leastK at hr
  simpa using (List.mem_filter.1 (List.mem_of_mem_take hr)).2
 ·simp
theorem up_srt {l:List It} (h:l.Pairwise fun p q=>p.1.1<q.1.1):Srt ltT l:=List.Pairwise.imp (fun hlt=>ltT_key hlt) h
theorem leastS_sok {l:List It} (h:sokB l=true):sokB (leastS l)=true :=
 sok_of (by have:=leastS_len l;omega) (fun r hr=>sok_at (once_sok h) ((leastS_mem h r).1 hr).1) (up_srt (leastS_up l))
theorem least_of {l m:List It} (h:sokB l=true) (hm:Srt ltT m) (he:∀ r,r∈m↔r∈onceT l/\∀ q∈onceT l,q.1.1=r.1.1->ltT q.1 r.1=false):m=leastS l :=
 srt_ext ltT_ord hm (up_srt (leastS_up l)) fun r=>by rw [he,leastS_mem h]
open Go.RowKit
def gI (l:List It) (j:Nat):It:=(l[j]?).getD ((0,0),0)
def kpI (l:List It) (j:Nat):Bool:=decide (j=0\/¬ (gI l j).1.1=(gI l (j-1)).1.1)
def cpI (l:List It) (m:Nat):List It:=((List.range m).filter (kpI l)).map (gI l)
theorem gI_at {l:List It} {j:Nat} (h:j<l.length):l[j]?=some (gI l j):=by
 unfold gI;rw [List.getElem?_eq_getElem h];rfl
theorem cpI_succ (l:List It) (m:Nat):cpI l (m+1)=cpI l m++(if kpI l m then [gI l m] else []):=by
 unfold cpI;rw [List.range_succ,List.filter_append,List.map_append]
 congr 1
 by_cases h:kpI l m<;>simp [h]
theorem rangeI (l:List It) (m:Nat) (hm:m<=l.length):(List.range m).map (gI l)=l.take m:=by
 apply List.ext_getElem?
 intro i
 by_cases hi:i<m
 ·rw [List.getElem?_take,if_pos hi,gI_at (show i<l.length by omega)];simp [hi]
 ·rw [List.getElem?_take,if_neg hi,List.getElem?_eq_none (by simp;omega)]
theorem cpI_all {l:List It} {m:Nat} (hm:m<=l.length) (h:∀ j,j<m->kpI l j=true):cpI l m=l.take m:=by
 unfold cpI;rw [List.filter_eq_self.2 (fun j hj=>h j (List.mem_range.1 hj)),rangeI l m hm]
theorem cpI_sub (l:List It):(cpI l l.length).Sublist l:=by
 have h:(cpI l l.length).Sublist ((List.range l.length).map (gI l)):=List.Sublist.map _ List.filter_sublist;rw [rangeI l _ (Nat.le_refl _),List.take_length] at h;exact h
theorem kpI_no {l:List It} {m:Nat} (hm:0<m) (h1:(gI l m).1.1=(gI l (m-1)).1.1):kpI l m=false:=by
 have:m≠0:=by omega
 simp [kpI,h1,this]
theorem kpI_one {l:List It} {j:Nat} (h:j<1):kpI l j=true:=by
 have:j=0:=by omega
 simp [kpI,this]
theorem kpI_yes {l:List It} {m:Nat} (h:¬ (gI l m).1.1=(gI l (m-1)).1.1):kpI l m=true:=by
 unfold kpI;exact decide_eq_true (.inr h)
theorem cpI_mem (l:List It) (r:It):r∈cpI l l.length↔∃ j,j<l.length/\kpI l j=true/\l[j]?=some r:=by
 unfold cpI;rw [List.mem_map];constructor
 ·rintro ⟨j,hj,rfl⟩;obtain ⟨h1,h2⟩:=List.mem_filter.1 hj;have:=List.mem_range.1 h1;exact ⟨j,this,h2,gI_at this⟩
 ·rintro ⟨j,h1,h2,h3⟩;refine ⟨j,List.mem_filter.2 ⟨List.mem_range.2 h1,h2⟩,?_⟩;rw [gI_at h1] at h3;exact Option.some.inj h3
theorem srt_get {l:List It} (h:Srt ltT l) {i j:Nat} {a b:It} (hij:i<j) (ha:l[i]?=some a) (hb:l[j]?=some b):ltT a.1 b.1=true:=by
 obtain ⟨hi,e1⟩:=List.getElem?_eq_some_iff.1 ha;obtain ⟨hj,e2⟩:=List.getElem?_eq_some_iff.1 hb;have:=(List.pairwise_iff_getElem.1 h) i j hi hj hij;rw [e1,e2] at this;exact this
theorem cp_least {l:List It} (h:sokB l=true):cpI (onceT l) (onceT l).length=leastS l:=by
 have hs:=once_srt (sok_srt h);refine least_of h (hs.sublist (cpI_sub _)) fun r=>?_;rw [cpI_mem];generalize onceT l=o at *;constructor
 ·rintro ⟨j,hj,hk,hr⟩;refine ⟨List.mem_of_getElem? hr,fun q hq e=>?_⟩;obtain ⟨i,hi,e1⟩:=List.getElem_of_mem hq;have hqi:o[i]?=some q:=by rw [List.getElem?_eq_getElem hi,e1]
  by_cases hij:i<j
  ·exfalso
   have hj0:j≠0:=by omega
   simp only [kpI,decide_eq_true_eq] at hk;have hne:=hk.resolve_left hj0;have hp:=gI_at (l:=o) (j:=j-1) (by omega);have hgr:gI o j=r:=by rw [gI_at hj] at hr;exact Option.some.inj hr
   have h1:=srt_get hs (show j-1<j by omega) hp hr;rw [hgr] at hne
   by_cases h0:i=j-1
   ·subst h0;rw [hqi] at hp;rw [<- Option.some.inj hp] at hne;exact hne e.symm
   ·have h2:=srt_get hs (show i<j-1 by omega) hqi hp;simp [ltT] at h1 h2;omega
  ·by_cases h0:i=j
   ·subst h0;rw [hr] at hqi;cases hqi;exact ltT_ord.irr _
   ·have h1:=srt_get hs (show j<i by omega) hr hqi;cases h2:ltT q.1 r.1
    ·rfl
    ·have:=ltT_ord.trans _ _ _ h1 h2;rw [ltT_ord.irr] at this;cases this
 ·rintro ⟨hr,hall⟩;obtain ⟨j,hj,e1⟩:=List.getElem_of_mem hr;have hrj:o[j]?=some r:=by rw [List.getElem?_eq_getElem hj,e1]
  refine ⟨j,hj,?_,hrj⟩
  by_cases h0:j=0
  ·exact kpI_one (by omega)
  ·refine kpI_yes fun e=>?_;have hp:=gI_at (l:=o) (j:=j-1) (by omega);have hgr:gI o j=r:=by rw [gI_at hj] at hrj;exact Option.some.inj hrj
   rw [hgr] at e;have h1:=srt_get hs (show j-1<j by omega) hp hrj;have h2:=hall _ (List.mem_of_getElem? hp) e.symm;rw [h2] at h1;cases h1
structure CpI (l:List It) (i j:Nat) (c:Array Value):Prop where
 lt:i<j
 le:j<=l.length
 len:(cpI l j).length=i
 low:FillK itC 3 c (cpI l j) i
 high:∀ m,i<=m->m<l.length->∀ q,q<3->c[m*3+q]?=(itC (gI l m))[q]?
theorem CpI.start {l:List It} {k:Nat} {c:Array Value} (hk:k<l.length) (hno:kpI l k=false) (hyes:∀ i,i<k->kpI l i=true) (hf:FillK itC 3 c l l.length):CpI l k (k+1) c:=by
 have e:cpI l (k+1)=l.take k:=by
  rw [cpI_succ,hno,cpI_all (by omega) hyes];simp
 refine ⟨by omega,hk,by rw [e,List.length_take];omega,fun i x hi hx=>?_,fun m _ hm q hq=>hf m _ hm (gI_at hm) q hq⟩;rw [e,List.getElem?_take,if_pos hi] at hx;exact hf i x (by omega) hx
theorem CpI.skip {l:List It} {i j:Nat} {c:Array Value} (h:CpI l i j c) (hj:j<l.length) (hy:kpI l j=false):CpI l i (j+1) c:=by
 have e:cpI l (j+1)=cpI l j:=by rw [cpI_succ,hy];simp
 exact ⟨by have:=h.lt;omega,hj,by rw [e];exact h.len,by rw [e];exact h.low,h.high⟩
theorem CpI.keep {l:List It} {i j:Nat} {c:Array Value} {K V D:Int} (h:CpI l i j c) (hj:j<l.length) (hs:l.length*3<=c.size) (hy:kpI l j=true) (hg:gI l j=((K,V),D)) :
  CpI l (i+1) (j+1) (((c.setIfInBounds (i*3) (.int .i64 K)).setIfInBounds (i*3+1) (.int .i64 V)).setIfInBounds (i*3+2) (.int .i64 D)):=by
 have hlt:=h.lt;have hlen:=h.len;have e:cpI l (j+1)=cpI l j++[((K,V),D)]:=by rw [cpI_succ,hy,hg];rfl
 refine ⟨by omega,hj,by rw [e,List.length_append];simp [hlen],fun a x ha hx q hq=>?_,fun m a b q hq=>?_⟩
 ·rw [e] at hx
  by_cases hai:a<i
  ·rw [List.getElem?_append_left (by omega)] at hx;rw [Array.getElem?_setIfInBounds,if_neg (by omega),Array.getElem?_setIfInBounds,if_neg (by omega),Array.getElem?_setIfInBounds,if_neg (by omega)];exact h.low a x hai hx q hq
  ·obtain rfl:a=i:=by omega
   rw [List.getElem?_append_right (by omega)] at hx;simp [hlen] at hx;subst hx;obtain rfl|rfl|rfl:q=0\/q=1\/q=2:=by omega
   ·rw [Array.getElem?_setIfInBounds,if_neg (by omega),Array.getElem?_setIfInBounds,if_neg (by omega),Array.getElem?_setIfInBounds,if_pos (by omega),if_pos (by omega)];rfl
   ·rw [Array.getElem?_setIfInBounds,if_neg (by omega),Array.getElem?_setIfInBounds,if_pos (by omega),if_pos (by simp;omega)];rfl
   ·rw [Array.getElem?_setIfInBounds,if_pos (by omega),if_pos (by simp;omega)];rfl
 ·rw [Array.getElem?_setIfInBounds,if_neg (by omega),Array.getElem?_setIfInBounds,if_neg (by omega),Array.getElem?_setIfInBounds,if_neg (by omega)];exact h.high m (by omega) b q hq
theorem itemOk_any (k v d:Int) (w:World):Calls Tryz.prog 142 #[iv k v d] w fun e w'=>e= .returned (.bool (itOkB ((k,v),d)))/\Below w.heap.size w w':=by
 have H:Hid (itOkB ((k,v),d)=((inB k 0 3&&inB v 0 99)&&decide (d≠0)&&decide (-1099511627776<=d/\d<=1099511627776))):=rfl;have hb0:Below w.heap.size w (w.alloc (.cells #[.int .i64 k, .int .i64 v, .int .i64 d] 98)):=bAz (Below.refl _ _) _;cases h1:(inB k 0 3&&inB v 0 99)
 ·go_enter Tryz.func142,Tryz.ntmps142
  go_wp2_with (go_at_call 194;refine (thingOk_eq (by with_reducible assumption) _).mono ?_;rintro e w' ⟨rfl,rfl⟩)
  go_ret;exact ⟨rB (by rw [H.out,h1];rfl),hb0⟩
 by_cases h3:d=0
 ·subst h3;go_enter Tryz.func142,Tryz.ntmps142
  go_wp2_with (go_at_call 194;refine (thingOk_eq (by with_reducible assumption) _).mono ?_;rintro e w' ⟨rfl,rfl⟩)
  go_ret;exact ⟨rB (by rw [H.out];simp),hb0⟩
 have n3:(d==0)=false:=by simpa using h3
 have HQ:Hid (itOkB ((k,v),d)=decide (-1099511627776<=d/\d<=1099511627776)):=by
  show _=_
  rw [H.out,h1];have:decide (d≠0)=true:=by simpa using h3
  rw [this];simp
 by_cases h4 : -1099511627776<=d
 ·by_cases h5:d<=1099511627776
  all_goals
   go_enter Tryz.func142,Tryz.ntmps142
   go_wp2_with (go_at_call 194;refine (thingOk_eq (by with_reducible assumption) _).mono ?_;rintro e w' ⟨rfl,rfl⟩)
   go_ret;exact ⟨rB (by have e:(d != 0)=true:=bne_iff_ne.2 h3;rw [HQ.out,e,Bool.eq_iff_iff];(simp<;>omega)),hb0⟩
 ·go_enter Tryz.func142,Tryz.ntmps142
  go_wp2_with (go_at_call 194;refine (thingOk_eq (by with_reducible assumption) _).mono ?_;rintro e w' ⟨rfl,rfl⟩)
  go_ret;exact ⟨rB (by rw [HQ.out];simp;omega),hb0⟩
theorem itemOk_eq {k v d:Int} {r:Bool} (h:itOkB ((k,v),d)=r) (w:World):Calls Tryz.prog 142 #[iv k v d] w fun e w'=>e= .returned (.bool r)/\Below w.heap.size w w':=by
 rw [<- h];exact itemOk_any k v d w
theorem compareI_eq {k v d k' v' d' r:Int} (h:cmpT (k,v) (k',v')=r) (w:World):Calls Tryz.prog 143 #[iv k v d,iv k' v' d'] w fun e w'=>e= .returned (.int .i64 r)/\Below w.heap.size w w':=by
 rw [<- h,<-cmpZ_or];exact (compareI_any k v d k' v' d' w).mono fun _ _ ⟨h1,h2⟩=>⟨h1,h2.1⟩
theorem upto_sst {l:List It} {k:Nat} (h:∀ j,j<k->sstep l j=true) (hk:sstep l k=true) {j:Nat} (hj:j<k+1):sstep l j=true:=by
 by_cases e:j=k
 ·subst e;exact hk
 ·exact h j (by omega)
theorem sstep_bad {l:List It} {k:Nat} {r:It} (hr:l[k]?=some r) (h:itOkB r=false):sstep l k=false:=by
 unfold sstep;rw [hr];simp [h]
theorem implSetOk_any (v:Value) (l:List It) (w:World) (h:Is w v l) :
  Calls Tryz.prog 73 #[v] w fun e w'=>e= .returned (.bool (sokB l))/\Below w.heap.size w w':=by
 obtain ⟨a,cap,rfl,hc,hm,hn,hcells⟩:=Is.open h;unfold maxLen at hm;have HC:=(show Hid _ from hcells);clear hcells h
 by_cases hlen:400<l.length
 ·have HK:Hid (sokB l=false):=sok_long hlen;have hlen':(400:Int)<(l.length:Int):=by omega
  go_enter Tryz.func73,Tryz.ntmps73;go_wp2_with fail;go_ret;exact ⟨rB HK.out.symm,Below.refl _ _⟩
 have HY:Hid ((∀ i,i<l.length->sstep l i=true)->sokB l=true):=fun h=>sok_mk (by omega) h;have HN:Hid (∀ i,i<l.length->sstep l i=false->sokB l=false):=fun i h1 h2=>sok_no h1 h2;go_enter Tryz.func73,Tryz.ntmps73;go_wp2_with fail
 go_loopw [10] (fun i wr=>∃ k:Nat,k<=l.length/\i= .int .i64 k/\(∀ j,j<k->sstep l j=true)/\Below w.heap.size w wr) (fun i _=>l.length-(intOf i).toNat)
 case atStart=>exact ⟨0,by omega,rfl,fun j hj=>by omega,Below.refl _ _⟩
 case round =>
  obtain ⟨k,hk,rfl,hall,hb⟩:=hrel;have HA:=(show Hid _ from hall);clear hall
  by_cases hlt:k<l.length
  ·obtain ⟨g,off,K,V,D,rfl,hg,hr,c0,c1,c2⟩:=HC.out k hlt;have d0:=cB hb c0;have d1:=cB hb c1;have d2:=cB hb c2;have HR:=(show Hid _ from hr);clear c0 c1 c2 hr;have ik:((k:Int)<(l.length:Int)):=by omega
   have bt0:=Bk.new (w:=wr) #[.int .i64 K, .int .i64 V, .int .i64 D] 98 rfl;have hbt:Below wr.heap.size wr (wr.alloc (.cells #[.int .i64 K, .int .i64 V, .int .i64 D] 98)):=bAz (Below.refl _ _) _;have hb':=bSz hb hbt
   go_upto_region 6 with fail
   clear d0 d1 d2;generalize wr.heap.size=tb at *;generalize World.alloc _ _=wt at *;have t0:∀ p:Bel wt,p.ww.cell? ⟨tb,0,none⟩=some (.int .i64 K):=fun p=>(bt0.keep p.below).three.1;have t1:∀ p:Bel wt,p.ww.cell? ⟨tb,1,none⟩=some (.int .i64 V):=fun p=>(bt0.keep p.below).three.2.1;have t2:∀ p:Bel wt,p.ww.cell? ⟨tb,2,none⟩=some (.int .i64 D):=fun p=>(bt0.keep p.below).three.2.2;have hne:=bel_some wt;clear bt0 hbt hb;cases hI:itOkB ((K,V),D)
   ·have HK:Hid (sokB l=false):=HN.out k hlt (sstep_bad HR.out hI);go_wp2_with fail
    (refine wBz (by kernel_rfl) (by kernel_rfl) ?_;(repeat (go_big_quiet_step ((first|(go_at_call 142;exact clz (itemOk_eq (by with_reducible assumption) _))|(go_at_call 143;exact clz (compareI_eq (by with_reducible assumption) _))))));refine wpQuiet_nil ?_)
    intro w1 hw1
    replace hw1:=bOz hw1
    go_wp2_with fail;go_ret;exact ⟨rB HK.out.symm,bSz hb' hw1⟩
   rcases k with _|m
   ·have HST:Hid (sstep l 0=true):=by show _=true;rw [sstep_first HR.out];exact hI
    go_wp2_with fail
    (refine wBz (by kernel_rfl) (by kernel_rfl) ?_;(repeat (go_big_quiet_step ((first|(go_at_call 142;exact clz (itemOk_eq (by with_reducible assumption) _))|(go_at_call 143;exact clz (compareI_eq (by with_reducible assumption) _))))));refine wpQuiet_nil ?_)
    intro w1 hw1
    replace hw1:=bOz hw1
    have hb1:=bSz hb' hw1;go_wp2_with fail;exact ⟨⟨1,by omega,rfl,fun j hj=>upto_sst HA.out HST.out hj,hb1⟩,by simp [intOf];omega⟩
   ·obtain ⟨g',off',K',V',D',he,hg',hq,p0,p1,p2⟩:=HC.out m (by omega);simp at he;obtain ⟨rfl,rfl⟩:=he;have e0:∀ p:Bel wt,p.ww.cell? ⟨g,off+m*3,none⟩=some (.int .i64 K'):=fun p=>cB p.below (cB hb' p0);have e1:∀ p:Bel wt,p.ww.cell? ⟨g,off+m*3+1,none⟩=some (.int .i64 V'):=fun p=>cB p.below (cB hb' p1);have e2:∀ p:Bel wt,p.ww.cell? ⟨g,off+m*3+2,none⟩=some (.int .i64 D'):=fun p=>cB p.below (cB hb' p2);clear p0 p1 p2;have HST:Hid (sstep l (m+1)=ltT (K',V') (K,V)):=by show _=_;rw [sstep_next HR.out hq,hI,Bool.true_and]
    clear hq;have im0:(0:Int)<=(m:Int):=by omega
    have im1:(m:Int)<(l.length:Int):=by omega
    have im2:(l.length:Int)<=2097152:=by omega
    have iw:IntKind.i64.wrap (m:Int)=(m:Int):=by rw [IntKind.wrap_i64];omega
    have hcl:=cmpT_lt (K',V') (K,V);obtain ⟨r,hcr⟩:∃ r,cmpT (K',V') (K,V)=r:=⟨_,rfl⟩;rw [hcr] at hcl;cases hst:ltT (K',V') (K,V)
    ·have HK:Hid (sokB l=false):=HN.out (m+1) hlt (by rw [HST.out];exact hst);have nr:decide (0<=r)=true:=by rw [hst] at hcl;simp at hcl ⊢;omega
     clear hcl;go_wp2_with fail
     (refine wBz (by kernel_rfl) (by kernel_rfl) ?_;(repeat (go_big_quiet_step ((first|(go_at_call 142;exact clz (itemOk_eq (by with_reducible assumption) _))|(go_at_call 143;exact clz (compareI_eq (by with_reducible assumption) _))))));refine wpQuiet_nil ?_)
     intro w1 hw1
     replace hw1:=bOz hw1
     go_wp2_with fail;go_ret;exact ⟨rB HK.out.symm,bSz hb' hw1⟩
    ·have HK:Hid (sstep l (m+1)=true):=by show _=true;rw [HST.out];exact hst
     have nr:decide (0<=r)=false:=by rw [hst] at hcl;simp at hcl ⊢;omega
     clear hcl;go_wp2_with fail
     (refine wBz (by kernel_rfl) (by kernel_rfl) ?_;(repeat (go_big_quiet_step ((first|(go_at_call 142;exact clz (itemOk_eq (by with_reducible assumption) _))|(go_at_call 143;exact clz (compareI_eq (by with_reducible assumption) _))))));refine wpQuiet_nil ?_)
     intro w1 hw1
     replace hw1:=bOz hw1
     have hb1:=bSz hb' hw1;go_wp2_with fail;go_roundw
     case rel=>exact ⟨m+1+1,by omega,by go_num,fun j hj=>upto_sst HA.out HK.out hj,hb1⟩
     case measure=>simp [intOf];omega
  ·have HK:Hid (sokB l=true):=HY.out fun j hj=>HA.out j (by omega);go_wp2_with fail;go_ret;exact ⟨rB HK.out.symm,hb⟩
theorem implSetOk_eq {l:List It} {r:Bool} (h:sokB l=r) {v:Value} {w:World} (hs:Is w v l) :
  Calls Tryz.prog 73 #[v] w fun e w'=>e= .returned (.bool r)/\Below w.heap.size w w':=by
 rw [<- h];exact implSetOk_any v l w hs
theorem once_yes {l:List It} {k:Nat} {s:Int×Int} {d:Int} (h:l[k]?=some (s,d)) (hd:0<d):onceT (l.take (k+1))=onceT (l.take k)++[(s,1)]:=by
 unfold onceT;rw [tSz h,List.filter_append,List.map_append];simp [hd]
theorem once_no {l:List It} {k:Nat} {s:Int×Int} {d:Int} (h:l[k]?=some (s,d)) (hd:¬ 0<d):onceT (l.take (k+1))=onceT (l.take k):=by
 unfold onceT;rw [tSz h,List.filter_append,List.map_append];simp [hd]
theorem sok_d {l:List It} (h:sokB l=true) {k:Nat} {s:Int×Int} {d:Int} (hr:l[k]?=some (s,d)) : -1099511627776<=d/\d<=1099511627776:=by
 have:=it_parts (sok_at h (List.mem_of_getElem? hr));exact ⟨this.2.2.2.2.2.1,this.2.2.2.2.2.2⟩
theorem implSetOnce_any (v:Value) (l:List It) (w:World) (h:Is w v l) :
  Calls Tryz.prog 199 #[v] w fun e w'=>∃ o:Value,e= .returned o/\OwnI w' w.heap.size o (onceS l)/\Below w.heap.size w w':=by
 cases hk:sokB l
 ·have HF:Hid (onceS l=[]):=onceS_no hk;go_enter Tryz.func199,Tryz.ntmps199;go_wp2_with fail;refine (implSetOk_eq hk h).mono ?_;rintro e w1 ⟨rfl,hb1⟩;go_wp2_with fail;go_ret;refine ⟨_,rfl,?_,hb1⟩;rw [HF.out];exact oN _ _ _ _ _
 have HF:Hid (onceS l=onceT l):=onceS_yes hk;have hl:=sok_len hk;go_enter Tryz.func199,Tryz.ntmps199;go_wp2_with fail;refine (implSetOk_eq hk h).mono ?_;rintro e w1 ⟨rfl,hb1⟩;have hs1:=hb1.size;obtain ⟨a,cap,rfl,hc,hm,hn,hcells⟩:=Is.open (h.keep hb1);unfold maxLen at hm;have HC:=(show Hid _ from hcells);clear hcells h hk;go_wp2_with fail
 go_loopw [3,11] (fun o i wr=>∃ k:Nat,k<=l.length/\i= .int .i64 k/\OwnI wr w1.heap.size o (onceT (l.take k))/\Below w1.heap.size w1 wr) (fun _ i _=>l.length-(intOf i).toNat)
 case atStart=>exact ⟨0,by omega,rfl,oN _ _ _ _ _,Below.refl _ _⟩
 case round =>
  obtain ⟨k,hkl,rfl,hown,hb⟩:=hrel;have HO:Hid (OwnI wr w1.heap.size u3 (onceT (l.take k))):=hown;clear hown;have hsz:=hb.size
  by_cases hlt:k<l.length
  ·obtain ⟨g,off,K,V,D,rfl,hg,hr,c0,c1,c2⟩:=HC.out k hlt;have d0:=cB hb c0;have d1:=cB hb c1;have d2:=cB hb c2;have ik:((k:Int)<(l.length:Int)):=by omega
   have hL:(onceT (l.take k)).length<=1000000:=by have:=once_len (l.take k);simp at this;omega
   have bx:=Bk.new (w:=wr) #[.int .i64 K, .int .i64 V, .int .i64 D] 98 rfl;have hbx:Below w1.heap.size w1 (wr.alloc (.cells #[.int .i64 K, .int .i64 V, .int .i64 D] 98)):=bAz hb _;have O1:OwnI (wr.alloc (.cells #[.int .i64 K, .int .i64 V, .int .i64 D] 98)) w1.heap.size u3 (onceT (l.take k)):=HO.out.alloc _;have hsx:=hbx.size;clear c0 c1 c2 HO
   by_cases hD:0<D
   ·have HZ:=(show Hid _ from once_yes hr hD);clear hr;generalize onceT (l.take k)=LL at *
    go_upto_region 7 with fail
    clear d0 d1 d2;generalize wr.heap.size=tb at *;generalize World.alloc _ _=wx at *;obtain ⟨q0,q1,q2⟩:=bx.three
    go_wp2_with (at_builtin;refine appI _ rfl _ _ rfl w1.heap.size _ LL rfl (O1.alloc _) _ K V 1 rfl (Bk.new _ _ rfl) (by omega) (by simp;omega) ?_;intro g9 cap9 w9 own9 hgrow hlg)
    have hb9:Below w1.heap.size w1 w9:=Below.grew (bAz hbx _) hgrow (by simp;omega) (oB O1);exact ⟨⟨k+1,by omega,by go_num,by rw [HZ.out];exact own9,hb9⟩,by simp [intOf];omega⟩
   ·have HZ:=(show Hid _ from once_no hr hD);clear hr
    go_upto_region 7 with fail
    clear d0 d1 d2;generalize wr.heap.size=tb at *;generalize World.alloc _ _=wx at *;obtain ⟨q0,q1,q2⟩:=bx.three;have O2:Hid (OwnI wx w1.heap.size u3 (onceT (l.take k))):=O1;clear O1;go_wp2_with fail;go_roundw
    case rel=>exact ⟨k+1,by omega,by go_num,by rw [HZ.out];exact O2.out,hbx⟩
    case measure=>simp [intOf];omega
  ·obtain rfl:k=l.length:=by omega
   have O1:Hid (OwnI wr w1.heap.size u3 (onceT l)):=by have:=HO.out;rw [List.take_length] at this;exact this
   clear HO;go_wp2_with fail;go_ret;refine ⟨_,rfl,?_,bSz hb1 hb⟩;rw [HF.out];exact oLz O1.out hs1
open Go.Shelf
theorem sok_take {l:List It} (h:sokB l=true) (k:Nat):absum (l.take k)<=1099511627776*400:=Int.le_trans (absum_take l k) (sok_abs h)
theorem keyN_yes {l:List It} {k:Nat} {K V D key:Int} (h:l[k]?=some ((K,V),D)) (e:K=key):keyN (l.take (k+1)) key=keyN (l.take k) key+D:=by
 rw [tSz h,keyN_snoc];simp [e]
theorem keyN_no {l:List It} {k:Nat} {K V D key:Int} (h:l[k]?=some ((K,V),D)) (e:K≠key):keyN (l.take (k+1)) key=keyN (l.take k) key:=by
 rw [tSz h,keyN_snoc];simp [e]
theorem mod100 (n:Int):((n.tmod 100)+100)%100=n%100:=by
 have h1:=Int.tmod_add_mul_tdiv n 100;omega
theorem once_other {l:List It} {k:Nat} {K V D key:Int} (hr:l[k]?=some ((K,V),D)) (hK:K≠key):((onceT (l.take (k+1))).filter fun r=>decide (r.1.1=key))=((onceT (l.take k)).filter fun r=>decide (r.1.1=key)):=by
 by_cases hD:0<D
 ·rw [once_yes hr hD,List.filter_append];simp [hK]
 ·rw [once_no hr hD]
theorem l3Count_any (n:Int) (w:World):Calls Tryz.prog 269 #[.int .i64 n] w fun e w'=>e= .returned (.int .i64 (n%100))/\Below w.heap.size w w':=by
 have t1:=Int.tmod_lt_of_pos n (b:=100) (by omega);have t2 : -100<n.tmod 100:=by have:=Int.lt_tmod_of_pos n (b:=100) (by omega);omega
 have H:=(show Hid _ from mod100 n);go_enter Tryz.func269,Tryz.ntmps269;go_wp2_with fail;go_ret;exact ⟨ret_int H.out,Below.refl _ _⟩
theorem valOf_any (n:Int) (w:World):Calls Tryz.prog 235 #[.int .i64 n] w fun e w'=>e= .returned (.int .i64 (n%100))/\Below w.heap.size w w':=by
 have t1:=Int.tmod_lt_of_pos n (b:=100) (by omega);have t2 : -100<n.tmod 100:=by have:=Int.lt_tmod_of_pos n (b:=100) (by omega);omega
 have H:=(show Hid _ from mod100 n);go_enter Tryz.func235,Tryz.ntmps235;go_wp2_with fail;go_ret;exact ⟨ret_int H.out,Below.refl _ _⟩
theorem l3Key_1 (v:Value) (l:List It) (key:Int) (w:World) (h:Is w v l) (hs:sokB l=true) :
  Calls Tryz.prog 256 #[v, .int .i64 key, .int .i64 1] w fun e w'=>∃ o:Value,e= .returned o/\OwnI w' w.heap.size o (kC l key)/\Below w.heap.size w w':=by
 obtain ⟨a,cap,rfl,hc,hm,hn,hcells⟩:=Is.open h;unfold maxLen at hm;have HC:=(show Hid _ from hcells);have hl:=sok_len hs;have HD:Hid (∀ (k:Nat) (s:Int×Int) (d:Int),l[k]?=some (s,d) -> -1099511627776<=d/\d<=1099511627776):=fun k s d hr=>sok_d hs hr;have HN:Hid (∀ k:Nat,-(1099511627776*400)<=keyN (l.take k) key/\keyN (l.take k) key<=1099511627776*400):=fun k=>by
  have h1:=keyN_abs (l.take k) key;have h2:=sok_take hs k;omega
 clear hcells h hs;have oE:=ownI_empty w rfl;have hbE:=bAz (Below.refl _ w) (.cells #[] 98);go_enter Tryz.func256,Tryz.ntmps256;go_wp2_with fail
 go_loopw [7,8,9] (fun o n i wr=>∃ k:Nat,k<=l.length/\i= .int .i64 k/\n= .int .i64 (keyN (l.take k) key)/\OwnI wr w.heap.size o (([]:List It))/\Below w.heap.size w wr) (fun _ _ i _=>l.length-(intOf i).toNat)
 case atStart=>exact ⟨0,by omega,rfl,rfl,oE,hbE⟩
 case round =>
  clear oE hbE;obtain ⟨k,hkl,rfl,rfl,hown,hb⟩:=hrel;have HO:Hid (OwnI wr w.heap.size u7 (([]:List It))):=hown;obtain ⟨n1,n2⟩:=HN.out k;have hsz:=hb.size;clear hown
  by_cases hlt:k<l.length
  ·obtain ⟨g,off,K,V,D,rfl,hg,hr,c0,c1,c2⟩:=HC.out k hlt;obtain ⟨hD1,hD2⟩:=HD.out k _ _ hr;have d0:=cB hb c0;have d1:=cB hb c1;have d2:=cB hb c2;have ik:((k:Int)<(l.length:Int)):=by omega
   clear c0 c1 c2
   by_cases hK:K=key
   ·subst hK;have HY:=(show Hid _ from keyN_yes hr rfl);clear hr;generalize keyN (l.take k) K=nn at *
    by_cases hD:0<D
    ·go_wp2_with fail;go_roundw
     case rel=>exact ⟨k+1,by omega,by go_num,by rw [HY.out],HO.out,hb⟩
     case measure=>simp [intOf];omega
    ·go_wp2_with fail;go_roundw
     case rel=>exact ⟨k+1,by omega,by go_num,by rw [HY.out],HO.out,hb⟩
     case measure=>simp [intOf];omega
   ·have nK:(K==key)=false:=by simpa using hK
    have HY:=(show Hid _ from keyN_no hr hK);have HZ:Hid (([]:List It)=([]:List It)):=rfl;clear hr;generalize keyN (l.take k) key=nn at *;go_wp2_with fail;go_roundw
    case rel=>exact ⟨k+1,by omega,by go_num,by rw [HY.out],by rw [HZ.out];exact HO.out,hb⟩
    case measure=>simp [intOf];omega
  ·obtain rfl:k=l.length:=by omega
   have HK:Hid (kC l key=if keyN (l.take l.length) key=0 then [] else [((key,keyN (l.take l.length) key%100),1)]):=by show _=_;rw [List.take_length];rfl
   generalize keyN (l.take l.length) key=nn at *
   by_cases h0:nn=0
   ·subst h0;have HR:Hid (OwnI wr w.heap.size u7 (kC l key)):=by rw [HK.out,if_pos rfl];exact HO.out
    go_wp2_with fail;go_ret;exact ⟨_,rfl,HR.out,hb⟩
   ·have n0:(nn==0)=false:=by simpa using h0
    go_wp2_with fail;refine (l3Count_any nn _).mono ?_;rintro e w1 ⟨rfl,hb1⟩;have hbn:=bSz hb hb1;have hsn:=hbn.size;have O2:OwnI w1 w.heap.size u7 []:=oK HO.out hb1
    go_wp2_with (at_builtin;refine appI _ rfl _ _ rfl w.heap.size _ [] rfl (O2.alloc _) _ key (nn%100) 1 rfl (Bk.new _ _ rfl) (by simp) (by simp;omega) ?_;intro g9 cap9 w9 own9 hgrow hlg)
    have hb9:Below w.heap.size w w9:=Below.grew (bAz hbn _) hgrow (by simp;omega) (oB O2);have HR:Hid (OwnI w9 w.heap.size (.slice (some ⟨g9,0,none⟩) (([]:List It).length+1) cap9) (kC l key)):=by rw [HK.out,if_neg h0];exact own9
    go_ret;exact ⟨_,rfl,HR.out,hb9⟩
theorem l3Key_2 (v:Value) (l:List It) (key:Int) (w:World) (h:Is w v l) (hs:sokB l=true) :
  Calls Tryz.prog 256 #[v, .int .i64 key, .int .i64 2] w fun e w'=>∃ o:Value,e= .returned o/\OwnI w' w.heap.size o ((onceT l).filter fun r=>decide (r.1.1=key))/\Below w.heap.size w w':=by
 obtain ⟨a,cap,rfl,hc,hm,hn,hcells⟩:=Is.open h;unfold maxLen at hm;have HC:=(show Hid _ from hcells);have hl:=sok_len hs;have HD:Hid (∀ (k:Nat) (s:Int×Int) (d:Int),l[k]?=some (s,d) -> -1099511627776<=d/\d<=1099511627776):=fun k s d hr=>sok_d hs hr;have HN:Hid (∀ k:Nat,-(1099511627776*400)<=keyN (l.take k) key/\keyN (l.take k) key<=1099511627776*400):=fun k=>by
  have h1:=keyN_abs (l.take k) key;have h2:=sok_take hs k;omega
 clear hcells h hs;have oE:=ownI_empty w rfl;have hbE:=bAz (Below.refl _ w) (.cells #[] 98);go_enter Tryz.func256,Tryz.ntmps256;go_wp2_with fail
 go_loopw [7,8,9] (fun o n i wr=>∃ k:Nat,k<=l.length/\i= .int .i64 k/\n= .int .i64 (keyN (l.take k) key)/\OwnI wr w.heap.size o ((onceT (l.take k)).filter fun r=>decide (r.1.1=key))/\Below w.heap.size w wr) (fun _ _ i _=>l.length-(intOf i).toNat)
 case atStart=>exact ⟨0,by omega,rfl,rfl,oE,hbE⟩
 case round =>
  clear oE hbE;obtain ⟨k,hkl,rfl,rfl,hown,hb⟩:=hrel;have HO:Hid (OwnI wr w.heap.size u7 ((onceT (l.take k)).filter fun r=>decide (r.1.1=key))):=hown;obtain ⟨n1,n2⟩:=HN.out k;have hsz:=hb.size;clear hown
  by_cases hlt:k<l.length
  ·obtain ⟨g,off,K,V,D,rfl,hg,hr,c0,c1,c2⟩:=HC.out k hlt;obtain ⟨hD1,hD2⟩:=HD.out k _ _ hr;have d0:=cB hb c0;have d1:=cB hb c1;have d2:=cB hb c2;have ik:((k:Int)<(l.length:Int)):=by omega
   clear c0 c1 c2
   by_cases hK:K=key
   ·subst hK;have HY:=(show Hid _ from keyN_yes hr rfl)
    by_cases hD:0<D
    ·have HZ:Hid (((onceT (l.take (k+1))).filter fun r=>decide (r.1.1=K))=((onceT (l.take k)).filter fun r=>decide (r.1.1=K))++[((K,V),1)]):=by show _=_;rw [once_yes hr hD,List.filter_append];simp
     have hL:((onceT (l.take k)).filter fun r=>decide (r.1.1=K)).length<=1000000:=by have h1:=List.length_filter_le (fun r:It=>decide (r.1.1=K)) (onceT (l.take k));have h2:=once_len (l.take k);simp at h2;omega
     have O1:OwnI wr w.heap.size u7 ((onceT (l.take k)).filter fun r=>decide (r.1.1=K)):=HO.out;clear hr HO;generalize ((onceT (l.take k)).filter fun r=>decide (r.1.1=K))=LL at *;generalize keyN (l.take k) K=nn at *
     go_wp2_with (at_builtin;refine appI _ rfl _ _ rfl w.heap.size _ LL rfl (O1.alloc _) _ K V 1 rfl (Bk.new _ _ rfl) (by omega) (by simp;omega) ?_;intro g9 cap9 w9 own9 hgrow hlg)
     have hb9:Below w.heap.size w w9:=Below.grew (bAz hb _) hgrow (by simp;omega) (oB O1);exact ⟨⟨k+1,by omega,by go_num,by rw [HY.out],by rw [HZ.out];exact own9,hb9⟩,by simp [intOf];omega⟩
    ·have HZ:Hid (((onceT (l.take (k+1))).filter fun r=>decide (r.1.1=K))=((onceT (l.take k)).filter fun r=>decide (r.1.1=K))):=by show _=_;rw [once_no hr hD]
     clear hr;generalize keyN (l.take k) K=nn at *;go_wp2_with fail;go_roundw
     case rel=>exact ⟨k+1,by omega,by go_num,by rw [HY.out],by rw [HZ.out];exact HO.out,hb⟩
     case measure=>simp [intOf];omega
   ·have nK:(K==key)=false:=by simpa using hK
    have HY:=(show Hid _ from keyN_no hr hK);have HZ:Hid (((onceT (l.take (k+1))).filter fun r=>decide (r.1.1=key))=((onceT (l.take k)).filter fun r=>decide (r.1.1=key))):=by show _=_;rw [once_other hr hK]
    clear hr;generalize keyN (l.take k) key=nn at *;go_wp2_with fail;go_roundw
    case rel=>exact ⟨k+1,by omega,by go_num,by rw [HY.out],by rw [HZ.out];exact HO.out,hb⟩
    case measure=>simp [intOf];omega
  ·obtain rfl:k=l.length:=by omega
   have HR:Hid (OwnI wr w.heap.size u7 ((onceT l).filter fun r=>decide (r.1.1=key))):=by have:=HO.out;rw [List.take_length] at this;exact this
   generalize keyN (l.take l.length) key=nn at *;go_wp2_with fail;go_ret;exact ⟨_,rfl,HR.out,hb⟩
theorem l3Key_3 (v:Value) (l:List It) (key:Int) (w:World) (h:Is w v l) (hs:sokB l=true) :
  Calls Tryz.prog 256 #[v, .int .i64 key, .int .i64 3] w fun e w'=>∃ o:Value,e= .returned o/\OwnI w' w.heap.size o (leastK l key)/\Below w.heap.size w w':=by
 obtain ⟨a,cap,rfl,hc,hm,hn,hcells⟩:=Is.open h;unfold maxLen at hm;have HC:=(show Hid _ from hcells);have hl:=sok_len hs;have HD:Hid (∀ (k:Nat) (s:Int×Int) (d:Int),l[k]?=some (s,d) -> -1099511627776<=d/\d<=1099511627776):=fun k s d hr=>sok_d hs hr;have HN:Hid (∀ k:Nat,-(1099511627776*400)<=keyN (l.take k) key/\keyN (l.take k) key<=1099511627776*400):=fun k=>by
  have h1:=keyN_abs (l.take k) key;have h2:=sok_take hs k;omega
 clear hcells h hs;have oE:=ownI_empty w rfl;have hbE:=bAz (Below.refl _ w) (.cells #[] 98);go_enter Tryz.func256,Tryz.ntmps256;go_wp2_with fail
 go_loopw [7,8,9] (fun o n i wr=>∃ k:Nat,k<=l.length/\i= .int .i64 k/\n= .int .i64 (keyN (l.take k) key)/\OwnI wr w.heap.size o (((onceT (l.take k)).filter fun r=>decide (r.1.1=key)).take 1)/\Below w.heap.size w wr) (fun _ _ i _=>l.length-(intOf i).toNat)
 case atStart=>exact ⟨0,by omega,rfl,rfl,oE,hbE⟩
 case round =>
  clear oE hbE;obtain ⟨k,hkl,rfl,rfl,hown,hb⟩:=hrel;have HO:Hid (OwnI wr w.heap.size u7 (((onceT (l.take k)).filter fun r=>decide (r.1.1=key)).take 1)):=hown;obtain ⟨n1,n2⟩:=HN.out k;have hsz:=hb.size;clear hown
  by_cases hlt:k<l.length
  ·obtain ⟨g,off,K,V,D,rfl,hg,hr,c0,c1,c2⟩:=HC.out k hlt;obtain ⟨hD1,hD2⟩:=HD.out k _ _ hr;have d0:=cB hb c0;have d1:=cB hb c1;have d2:=cB hb c2;have ik:((k:Int)<(l.length:Int)):=by omega
   clear c0 c1 c2
   by_cases hK:K=key
   ·subst hK;have HY:=(show Hid _ from keyN_yes hr rfl);have HO2:Hid (OwnI wr w.heap.size u7 (((onceT (l.take k)).filter fun r=>decide (r.1.1=K)).take 1)):=HO.out;have R0:Is wr u7 (((onceT (l.take k)).filter fun r=>decide (r.1.1=K)).take 1):=OwnI.is HO.out (by simp;omega);obtain ⟨a7,cap7,hu7,-,-,-,-⟩:=R0
    by_cases hD:0<D
    ·by_cases hz:(((onceT (l.take k)).filter fun r=>decide (r.1.1=K)).take 1).length=0
     ·have h0:(onceT (l.take k)).filter (fun r=>decide (r.1.1=K))=[]:=by
       rw [List.length_take] at hz;exact List.eq_nil_of_length_eq_zero (by omega)
      have e0:(((onceT (l.take k)).filter fun r=>decide (r.1.1=K)).take 1)=[]:=by rw [h0];rfl
      have HZ:Hid ((((onceT (l.take (k+1))).filter fun r=>decide (r.1.1=K)).take 1)=[((K,V),1)]):=by show _=_;rw [once_yes hr hD,List.filter_append,h0];simp
      have O1:OwnI wr w.heap.size u7 []:=by have:=HO.out;rw [e0] at this;exact this
      have hu:u7= .slice a7 0 cap7:=by rw [hu7,e0];rfl
      subst hu;clear hr HO HO2 hz h0 e0 hu7;generalize keyN (l.take k) K=nn at *
      go_wp2_with (at_builtin;refine appI _ rfl _ _ rfl w.heap.size _ [] rfl (O1.alloc _) _ K V 1 rfl (Bk.new _ _ rfl) (by simp) (by simp;omega) ?_;intro g9 cap9 w9 own9 hgrow hlg)
      have hb9:Below w.heap.size w w9:=Below.grew (bAz hb _) hgrow (by simp;omega) (oB O1);exact ⟨⟨k+1,by omega,by go_num,by rw [HY.out],by rw [HZ.out];exact own9,hb9⟩,by simp [intOf];omega⟩
     ·have HZ:Hid ((((onceT (l.take (k+1))).filter fun r=>decide (r.1.1=K)).take 1)=(((onceT (l.take k)).filter fun r=>decide (r.1.1=K)).take 1)):=by
       show _=_
       rw [once_yes hr hD,List.filter_append,List.take_append_of_le_length (by rw [List.length_take] at hz;omega)]
      have nz:(((((onceT (l.take k)).filter fun r=>decide (r.1.1=K)).take 1).length:Int)==0)=false:=by simpa using hz
      clear hr hz HO;generalize (((onceT (l.take k)).filter fun r=>decide (r.1.1=K)).take 1)=XX at *;subst hu7;generalize keyN (l.take k) K=nn at *;go_wp2_with fail;go_roundw
      case rel=>exact ⟨k+1,by omega,by go_num,by rw [HY.out],by rw [HZ.out];exact HO2.out,hb⟩
      case measure=>simp [intOf];omega
    ·have HZ:Hid ((((onceT (l.take (k+1))).filter fun r=>decide (r.1.1=K)).take 1)=(((onceT (l.take k)).filter fun r=>decide (r.1.1=K)).take 1)):=by show _=_;rw [once_no hr hD]
     clear hr;subst hu7;generalize keyN (l.take k) K=nn at *;go_wp2_with fail;go_roundw
     case rel=>exact ⟨k+1,by omega,by go_num,by rw [HY.out],by rw [HZ.out];exact HO2.out,hb⟩
     case measure=>simp [intOf];omega
   ·have nK:(K==key)=false:=by simpa using hK
    have HY:=(show Hid _ from keyN_no hr hK);have HZ:Hid ((((onceT (l.take (k+1))).filter fun r=>decide (r.1.1=key)).take 1)=((onceT (l.take k)).filter fun r=>decide (r.1.1=key)).take 1):=by show _=_;rw [once_other hr hK]
    clear hr;generalize keyN (l.take k) key=nn at *;go_wp2_with fail;go_roundw
    case rel=>exact ⟨k+1,by omega,by go_num,by rw [HY.out],by rw [HZ.out];exact HO.out,hb⟩
    case measure=>simp [intOf];omega
  ·obtain rfl:k=l.length:=by omega
   have HR:Hid (OwnI wr w.heap.size u7 (leastK l key)):=by have:=HO.out;rw [List.take_length] at this;exact this
   generalize keyN (l.take l.length) key=nn at *;go_wp2_with fail;go_ret;exact ⟨_,rfl,HR.out,hb⟩
def accF (f:Int->List It):Nat->List It
 | 0=>[]
 | k+1=>accF f k++f k
theorem accF_len {f:Int->List It} {c:Nat} (h:∀ k,(f k).length<=c) (k:Nat):(accF f k).length<=k*c:=by
 induction k with
 | zero=>simp [accF]
 | succ k ih=>have:=h k;simp only [accF,List.length_append,Nat.add_mul];omega
theorem accF_four (f:Int->List It):accF f 4=f 0++f 1++f 2++f 3:=by simp [accF]
open Go.ChangeMaps (setBlock)
theorem it_th {s:Int×Int} (h:itK s):thOk s:=by
 obtain ⟨h1,h2,h3,h4⟩:=h;exact ⟨by unfold fit63;omega,by unfold fit63;omega⟩
theorem Bk.quad {w:World} {k:Nat} {x0 x1 x2 x3:Value} {t:TypeId} (h:Bk w k #[x0,x1,x2,x3] t) :
  w.cell? ⟨k,0,none⟩=some x0/\w.cell? ⟨k,1,none⟩=some x1/\w.cell? ⟨k,2,none⟩=some x2/\w.cell? ⟨k,3,none⟩=some x3:=by
 unfold Bk at h;simp [World.cell?,h]
theorem idx4_0 (n0 n1 n2 n3:Int) (u:World):(Instr.index 276 (.agg #[.int .i64 n0, .int .i64 n1, .int .i64 n2, .int .i64 n3]) (.int .i64 0)).run Tryz.prog u= .ok (.int .i64 n0) u:=by kernel_rfl
theorem idx4_1 (n0 n1 n2 n3:Int) (u:World):(Instr.index 276 (.agg #[.int .i64 n0, .int .i64 n1, .int .i64 n2, .int .i64 n3]) (.int .i64 1)).run Tryz.prog u= .ok (.int .i64 n1) u:=by kernel_rfl
theorem idx4_2 (n0 n1 n2 n3:Int) (u:World):(Instr.index 276 (.agg #[.int .i64 n0, .int .i64 n1, .int .i64 n2, .int .i64 n3]) (.int .i64 2)).run Tryz.prog u= .ok (.int .i64 n2) u:=by kernel_rfl
theorem idx4_3 (n0 n1 n2 n3:Int) (u:World):(Instr.index 276 (.agg #[.int .i64 n0, .int .i64 n1, .int .i64 n2, .int .i64 n3]) (.int .i64 3)).run Tryz.prog u= .ok (.int .i64 n3) u:=by kernel_rfl
theorem implSetCount_any (v:Value) (l:List It) (w:World) (h:Is w v l) :
  Calls Tryz.prog 198 #[v] w fun e w'=>∃ o:Value,e= .returned o/\OwnI w' w.heap.size o (countS l)/\Below w.heap.size w w':=by
 cases hk:sokB l
 ·have HF:Hid (countS l=[]):=countS_no hk;go_enter Tryz.func198,Tryz.ntmps198;go_wp2_with fail;refine (implSetOk_eq hk h).mono ?_;rintro e w1 ⟨rfl,hb1⟩;go_wp2_with fail;go_ret;refine ⟨_,rfl,?_,hb1⟩;rw [HF.out];exact oN _ _ _ _ _
 have HF:Hid (countS l=accF (kC l) 4):=by show _=_;rw [accF_four];exact countS_yes hk
 have hl:=sok_len hk;have HN:Hid (∀ (k:Nat) (key:Int),-(1099511627776*400)<=keyN (l.take k) key/\keyN (l.take k) key<=1099511627776*400):=fun k key=>by
  have h1:=keyN_abs (l.take k) key;have h2:=sok_take hk k;omega
 have HP:Hid (∀ (k:Nat) (K V D:Int),l[k]?=some ((K,V),D)->0<=K/\K<=3 /\ -1099511627776<=D/\D<=1099511627776):=fun k K V D hr=>by
  have:=it_parts (sok_at hk (List.mem_of_getElem? hr));simp only at this;omega
 go_enter Tryz.func198,Tryz.ntmps198;go_wp2_with fail;refine (implSetOk_eq hk h).mono ?_;rintro e w1 ⟨rfl,hb1⟩;have hs1:=hb1.size;obtain ⟨a,cap,rfl,hc,hm,hn,hcells⟩:=Is.open (h.keep hb1);unfold maxLen at hm;have HC:=(show Hid _ from hcells);clear hcells h hk;have b0:Bk (w1.alloc (.cells #[.int .i64 0, .int .i64 0, .int .i64 0, .int .i64 0] 276)) w1.heap.size #[.int .i64 0, .int .i64 0, .int .i64 0, .int .i64 0] 276:=Bk.new _ _ rfl;have hb0:Below w1.heap.size w1 (w1.alloc (.cells #[.int .i64 0, .int .i64 0, .int .i64 0, .int .i64 0] 276)):=bAz (Below.refl _ _) _;go_wp2_with fail
 go_loopw [14] (fun i wr=>∃ k:Nat,k<=l.length/\i= .int .i64 k/\Bk wr w1.heap.size #[.int .i64 (keyN (l.take k) 0), .int .i64 (keyN (l.take k) 1), .int .i64 (keyN (l.take k) 2), .int .i64 (keyN (l.take k) 3)] 276/\Below w1.heap.size w1 wr) (fun i _=>l.length-(intOf i).toNat)
 case atStart=>exact ⟨0,by omega,rfl,b0,hb0⟩
 case round =>
  clear b0 hb0;obtain ⟨k,hkl,rfl,hbk,hb⟩:=hrel;obtain ⟨m0,m0'⟩:=HN.out k 0;obtain ⟨m1,m1'⟩:=HN.out k 1;obtain ⟨m2,m2'⟩:=HN.out k 2;obtain ⟨m3,m3'⟩:=HN.out k 3;have hsz:=hb.size;have hlw:=hbk.lt
  by_cases hlt:k<l.length
  ·obtain ⟨g,off,K,V,D,rfl,hg,hr,c0,c1,c2⟩:=HC.out k hlt;obtain ⟨p0,p1,p2,p3⟩:=HP.out k _ _ _ hr;have d0:=cB hb c0;have d1:=cB hb c1;have d2:=cB hb c2;have ik:((k:Int)<(l.length:Int)):=by omega
   have HK:Hid (keyN (l.take (k+1)) 0=keyN (l.take k) 0+(if K=0 then D else 0)/\keyN (l.take (k+1)) 1=keyN (l.take k) 1+(if K=1 then D else 0)/\keyN (l.take (k+1)) 2=keyN (l.take k) 2+(if K=2 then D else 0)/\keyN (l.take (k+1)) 3=keyN (l.take k) 3+(if K=3 then D else 0)):=by rw [tSz hr];exact ⟨keyN_snoc _ _ _,keyN_snoc _ _ _,keyN_snoc _ _ _,keyN_snoc _ _ _⟩
   have bx:=Bk.new (w:=wr) #[.int .i64 K, .int .i64 V, .int .i64 D] 98 rfl;have hbx:Below w1.heap.size w1 (wr.alloc (.cells #[.int .i64 K, .int .i64 V, .int .i64 D] 98)):=bAz hb _;have bs:=hbk.alloc (.cells #[.int .i64 K, .int .i64 V, .int .i64 D] 98);clear c0 c1 c2 hr hbk;generalize keyN (l.take k) 0=n0 at *;generalize keyN (l.take k) 1=n1 at *;generalize keyN (l.take k) 2=n2 at *;generalize keyN (l.take k) 3=n3 at *
   go_upto_region 7 with fail
   clear d0 d1 d2;generalize wr.heap.size=tb at *;generalize World.alloc _ _=wx at *;obtain ⟨q0,q1,q2⟩:=bx.three;obtain ⟨s0,s1,s2,s3⟩:=bs.quad;obtain rfl|rfl|rfl|rfl:K=0\/K=1\/K=2\/K=3:=by omega
   ·have iw:IntKind.i64.wrap (n0+D)=n0+D:=by rw [IntKind.wrap_i64];omega
    have fj:=bs.free 0
    go_region
    have bs2:=(bs.set 0 (.int .i64 (n0+D))).drew;have hb2:Below w1.heap.size w1 (wx.setCell ⟨w1.heap.size,0,none⟩ (.int .i64 (n0+D))).drew:=(hbx.setCell (by simp) _).drew;generalize (wx.setCell ⟨w1.heap.size,0,none⟩ (.int .i64 (n0+D))).drew=w7 at *;obtain ⟨e0,e1,e2,e3⟩:=HK.out;have HE:Hid (keyN (l.take (k+1)) 0=n0+D/\keyN (l.take (k+1)) 1=n1/\keyN (l.take (k+1)) 2=n2/\keyN (l.take (k+1)) 3=n3):=⟨by rw [e0];simp,by rw [e1];simp,by rw [e2];simp,by rw [e3];simp⟩;clear e0 e1 e2 e3 q0 q1 q2 s0 s1 s2 s3 fj;go_wp2_with fail;go_roundw
    case rel =>
     refine ⟨k+1,by omega,by go_num,?_,hb2⟩;rw [HE.out.1,HE.out.2.1,HE.out.2.2.1,HE.out.2.2.2];exact bs2
    case measure=>simp [intOf];omega
   ·have iw:IntKind.i64.wrap (n1+D)=n1+D:=by rw [IntKind.wrap_i64];omega
    have fj:=bs.free 1
    go_region
    have bs2:=(bs.set 1 (.int .i64 (n1+D))).drew;have hb2:Below w1.heap.size w1 (wx.setCell ⟨w1.heap.size,1,none⟩ (.int .i64 (n1+D))).drew:=(hbx.setCell (by simp) _).drew;generalize (wx.setCell ⟨w1.heap.size,1,none⟩ (.int .i64 (n1+D))).drew=w7 at *;obtain ⟨e0,e1,e2,e3⟩:=HK.out;have HE:Hid (keyN (l.take (k+1)) 0=n0/\keyN (l.take (k+1)) 1=n1+D/\keyN (l.take (k+1)) 2=n2/\keyN (l.take (k+1)) 3=n3):=⟨by rw [e0];simp,by rw [e1];simp,by rw [e2];simp,by rw [e3];simp⟩;clear e0 e1 e2 e3 q0 q1 q2 s0 s1 s2 s3 fj;go_wp2_with fail;go_roundw
    case rel =>
     refine ⟨k+1,by omega,by go_num,?_,hb2⟩;rw [HE.out.1,HE.out.2.1,HE.out.2.2.1,HE.out.2.2.2];exact bs2
    case measure=>simp [intOf];omega
   ·have iw:IntKind.i64.wrap (n2+D)=n2+D:=by rw [IntKind.wrap_i64];omega
    have fj:=bs.free 2
    go_region
    have bs2:=(bs.set 2 (.int .i64 (n2+D))).drew;have hb2:Below w1.heap.size w1 (wx.setCell ⟨w1.heap.size,2,none⟩ (.int .i64 (n2+D))).drew:=(hbx.setCell (by simp) _).drew;generalize (wx.setCell ⟨w1.heap.size,2,none⟩ (.int .i64 (n2+D))).drew=w7 at *;obtain ⟨e0,e1,e2,e3⟩:=HK.out;have HE:Hid (keyN (l.take (k+1)) 0=n0/\keyN (l.take (k+1)) 1=n1/\keyN (l.take (k+1)) 2=n2+D/\keyN (l.take (k+1)) 3=n3):=⟨by rw [e0];simp,by rw [e1];simp,by rw [e2];simp,by rw [e3];simp⟩;clear e0 e1 e2 e3 q0 q1 q2 s0 s1 s2 s3 fj;go_wp2_with fail;go_roundw
    case rel =>
     refine ⟨k+1,by omega,by go_num,?_,hb2⟩;rw [HE.out.1,HE.out.2.1,HE.out.2.2.1,HE.out.2.2.2];exact bs2
    case measure=>simp [intOf];omega
   ·have iw:IntKind.i64.wrap (n3+D)=n3+D:=by rw [IntKind.wrap_i64];omega
    have fj:=bs.free 3
    go_region
    have bs2:=(bs.set 3 (.int .i64 (n3+D))).drew;have hb2:Below w1.heap.size w1 (wx.setCell ⟨w1.heap.size,3,none⟩ (.int .i64 (n3+D))).drew:=(hbx.setCell (by simp) _).drew;generalize (wx.setCell ⟨w1.heap.size,3,none⟩ (.int .i64 (n3+D))).drew=w7 at *;obtain ⟨e0,e1,e2,e3⟩:=HK.out;have HE:Hid (keyN (l.take (k+1)) 0=n0/\keyN (l.take (k+1)) 1=n1/\keyN (l.take (k+1)) 2=n2/\keyN (l.take (k+1)) 3=n3+D):=⟨by rw [e0];simp,by rw [e1];simp,by rw [e2];simp,by rw [e3];simp⟩;clear e0 e1 e2 e3 q0 q1 q2 s0 s1 s2 s3 fj;go_wp2_with fail;go_roundw
    case rel =>
     refine ⟨k+1,by omega,by go_num,?_,hb2⟩;rw [HE.out.1,HE.out.2.1,HE.out.2.2.1,HE.out.2.2.2];exact bs2
    case measure=>simp [intOf];omega
  ·obtain rfl:k=l.length:=by omega
   rw [List.take_length] at hbk m0 m0' m1 m1' m2 m2' m3 m3';obtain ⟨s0,s1,s2,s3⟩:=hbk.quad;have HK:Hid (kC l 0=(if keyN l 0=0 then [] else [((0,keyN l 0%100),1)])/\kC l 1=(if keyN l 1=0 then [] else [((1,keyN l 1%100),1)])/\kC l 2=(if keyN l 2=0 then [] else [((2,keyN l 2%100),1)])/\kC l 3=(if keyN l 3=0 then [] else [((3,keyN l 3%100),1)])):=⟨rfl,rfl,rfl,rfl⟩;have hbw:=bSz hb1 hb;have hsw:=hbw.size;clear hbk HC HP HN;generalize keyN l 0=n0 at *;generalize keyN l 1=n1 at *;generalize keyN l 2=n2 at *;generalize keyN l 3=n3 at *;have HL:Hid (∀ k:Nat,(accF (kC l) k).length<=k*1):=accF_len (fun k=>countK_len l k);have HZ:Hid (accF (kC l) 1=accF (kC l) 0++kC l 0/\accF (kC l) 2=accF (kC l) 1++kC l 1/\accF (kC l) 3=accF (kC l) 2++kC l 2/\accF (kC l) 4=accF (kC l) 3++kC l 3):=⟨rfl,rfl,rfl,rfl⟩;obtain ⟨W,hW⟩:∃ W,W=wr:=⟨_,rfl⟩;subst hW;go_wp2_with fail
   go_loopw [6,28] (fun o i wz=>∃ k:Nat,k<=4/\i= .int .i64 k/\OwnI wz W.heap.size o (accF (kC l) k)/\Below W.heap.size W wz) (fun _ i _=>4-(intOf i).toNat)
   case atStart=>exact ⟨0,by omega,rfl,oN _ _ _ _ _,Below.refl _ _⟩
   case round =>
    clear s0 s1 s2 s3;obtain ⟨k,hk4,rfl,hown,hbz⟩:=hrel;have HO:Hid (OwnI wr W.heap.size u6 (accF (kC l) k)):=hown;have h1:=HL.out k;have hzs:=hbz.size;clear hown
    by_cases hlt:k<4
    ·obtain rfl|rfl|rfl|rfl:k=0\/k=1\/k=2\/k=3:=by omega
     ·by_cases hz:n0=0
      ·subst hz;have ix:=idx4_0 0 n1 n2 n3;have HQ:Hid (accF (kC l) (0+1)=accF (kC l) 0):=by show _=_;rw [HZ.out.1,HK.out.1,if_pos rfl,List.append_nil]
       generalize accF (kC l) 0=LL at *;go_wp2_with fail;go_roundw
       case rel=>exact ⟨0+1,by omega,by go_num,by rw [HQ.out];exact HO.out,hbz⟩
       case measure=>simp [intOf]
      ·have nz:(n0==0)=false:=by simpa using hz
       have ix:=idx4_0 n0 n1 n2 n3;have HQ:Hid (accF (kC l) (0+1)=accF (kC l) 0++[((0,n0%100),1)]):=by show _=_;rw [HZ.out.1,HK.out.1,if_neg hz]
       go_wp2_with fail;refine (valOf_any n0 _).mono ?_;rintro e w8 ⟨rfl,hb8⟩;have hbn:=bSz hbz hb8;have hsn:=hbn.size;have O2:OwnI w8 W.heap.size u6 (accF (kC l) 0):=oK HO.out hb8;generalize accF (kC l) 0=LL at *
       go_wp2_with (at_builtin;refine appI _ rfl _ _ rfl W.heap.size _ LL rfl (O2.alloc _) _ 0 (n0%100) 1 rfl (Bk.new _ _ rfl) (by omega) (by simp;omega) ?_;intro g9 cap9 w9 own9 hgrow hlg)
       have hb9:Below W.heap.size W w9:=Below.grew (bAz hbn _) hgrow (by simp;omega) (oB O2);exact ⟨⟨0+1,by omega,by go_num,by rw [HQ.out];exact own9,hb9⟩,by simp [intOf]⟩
     ·by_cases hz:n1=0
      ·subst hz;have ix:=idx4_1 n0 0 n2 n3;have HQ:Hid (accF (kC l) (1+1)=accF (kC l) 1):=by show _=_;rw [HZ.out.2.1,HK.out.2.1,if_pos rfl,List.append_nil]
       generalize accF (kC l) 1=LL at *;go_wp2_with fail;go_roundw
       case rel=>exact ⟨1+1,by omega,by go_num,by rw [HQ.out];exact HO.out,hbz⟩
       case measure=>simp [intOf]
      ·have nz:(n1==0)=false:=by simpa using hz
       have ix:=idx4_1 n0 n1 n2 n3;have HQ:Hid (accF (kC l) (1+1)=accF (kC l) 1++[((1,n1%100),1)]):=by show _=_;rw [HZ.out.2.1,HK.out.2.1,if_neg hz]
       go_wp2_with fail;refine (valOf_any n1 _).mono ?_;rintro e w8 ⟨rfl,hb8⟩;have hbn:=bSz hbz hb8;have hsn:=hbn.size;have O2:OwnI w8 W.heap.size u6 (accF (kC l) 1):=oK HO.out hb8;generalize accF (kC l) 1=LL at *
       go_wp2_with (at_builtin;refine appI _ rfl _ _ rfl W.heap.size _ LL rfl (O2.alloc _) _ 1 (n1%100) 1 rfl (Bk.new _ _ rfl) (by omega) (by simp;omega) ?_;intro g9 cap9 w9 own9 hgrow hlg)
       have hb9:Below W.heap.size W w9:=Below.grew (bAz hbn _) hgrow (by simp;omega) (oB O2);exact ⟨⟨1+1,by omega,by go_num,by rw [HQ.out];exact own9,hb9⟩,by simp [intOf]⟩
     ·by_cases hz:n2=0
      ·subst hz;have ix:=idx4_2 n0 n1 0 n3;have HQ:Hid (accF (kC l) (2+1)=accF (kC l) 2):=by show _=_;rw [HZ.out.2.2.1,HK.out.2.2.1,if_pos rfl,List.append_nil]
       generalize accF (kC l) 2=LL at *;go_wp2_with fail;go_roundw
       case rel=>exact ⟨2+1,by omega,by go_num,by rw [HQ.out];exact HO.out,hbz⟩
       case measure=>simp [intOf]
      ·have nz:(n2==0)=false:=by simpa using hz
       have ix:=idx4_2 n0 n1 n2 n3;have HQ:Hid (accF (kC l) (2+1)=accF (kC l) 2++[((2,n2%100),1)]):=by show _=_;rw [HZ.out.2.2.1,HK.out.2.2.1,if_neg hz]
       go_wp2_with fail;refine (valOf_any n2 _).mono ?_;rintro e w8 ⟨rfl,hb8⟩;have hbn:=bSz hbz hb8;have hsn:=hbn.size;have O2:OwnI w8 W.heap.size u6 (accF (kC l) 2):=oK HO.out hb8;generalize accF (kC l) 2=LL at *
       go_wp2_with (at_builtin;refine appI _ rfl _ _ rfl W.heap.size _ LL rfl (O2.alloc _) _ 2 (n2%100) 1 rfl (Bk.new _ _ rfl) (by omega) (by simp;omega) ?_;intro g9 cap9 w9 own9 hgrow hlg)
       have hb9:Below W.heap.size W w9:=Below.grew (bAz hbn _) hgrow (by simp;omega) (oB O2);exact ⟨⟨2+1,by omega,by go_num,by rw [HQ.out];exact own9,hb9⟩,by simp [intOf]⟩
     ·by_cases hz:n3=0
      ·subst hz;have ix:=idx4_3 n0 n1 n2 0;have HQ:Hid (accF (kC l) (3+1)=accF (kC l) 3):=by show _=_;rw [HZ.out.2.2.2,HK.out.2.2.2,if_pos rfl,List.append_nil]
       generalize accF (kC l) 3=LL at *;go_wp2_with fail;go_roundw
       case rel=>exact ⟨3+1,by omega,by go_num,by rw [HQ.out];exact HO.out,hbz⟩
       case measure=>simp [intOf]
      ·have nz:(n3==0)=false:=by simpa using hz
       have ix:=idx4_3 n0 n1 n2 n3;have HQ:Hid (accF (kC l) (3+1)=accF (kC l) 3++[((3,n3%100),1)]):=by show _=_;rw [HZ.out.2.2.2,HK.out.2.2.2,if_neg hz]
       go_wp2_with fail;refine (valOf_any n3 _).mono ?_;rintro e w8 ⟨rfl,hb8⟩;have hbn:=bSz hbz hb8;have hsn:=hbn.size;have O2:OwnI w8 W.heap.size u6 (accF (kC l) 3):=oK HO.out hb8;generalize accF (kC l) 3=LL at *
       go_wp2_with (at_builtin;refine appI _ rfl _ _ rfl W.heap.size _ LL rfl (O2.alloc _) _ 3 (n3%100) 1 rfl (Bk.new _ _ rfl) (by omega) (by simp;omega) ?_;intro g9 cap9 w9 own9 hgrow hlg)
       have hb9:Below W.heap.size W w9:=Below.grew (bAz hbn _) hgrow (by simp;omega) (oB O2);exact ⟨⟨3+1,by omega,by go_num,by rw [HQ.out];exact own9,hb9⟩,by simp [intOf]⟩
    ·obtain rfl:k=4:=by omega
     go_wp2_with fail;go_ret;refine ⟨_,rfl,?_,bSz hbw hbz⟩;rw [HF.out];exact oLz HO.out hsw
end Go.Proofs.YtbdpcngcbnoioaaGreatDoor
