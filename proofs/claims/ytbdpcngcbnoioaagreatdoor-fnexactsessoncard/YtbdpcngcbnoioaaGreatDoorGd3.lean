import Derived.Test.YtbdpcngcbnoioaaGreatDoorGa8
import Derived.Test.YtbdpcngcbnoioaaGreatDoorGs7
import Derived.Test.YtbdpcngcbnoioaaGreatDoorGs2
namespace Go.Proofs.YtbdpcngcbnoioaaGreatDoor
open Go.RowKit
abbrev okP (p:Int×Int):Bool:=okB p.1 p.2
abbrev leP (p q:Int×Int):Bool:=leB p.1 p.2 q.1 q.2
theorem leP_anti {p q:Int×Int} (h:leP p q=true) (h':leP q p=true):p=q:=by
 obtain ⟨h1,h2⟩:=leB_anti h h';exact Prod.ext h1 h2
theorem leP_refl {p:Int×Int} (h:okP p=true):leP p p=true:=by unfold leP;rw [leB_self];exact h
theorem any_iff {l:LI} {x y:Int}:anyB l x y=true↔∃ p∈l,leB p.1 p.2 x y=true:=by
 constructor
 ·intro h;obtain ⟨k,hk,hle⟩:=any_at h;refine ⟨l[k],List.getElem_mem hk,?_⟩
  simpa [tA,tB,hk] using hle
 ·rintro ⟨p,hp,hle⟩;obtain ⟨k,hk,rfl⟩:=List.getElem_of_mem hp;exact any_true hk (by simpa [tA,tB,hk] using hle)
structure Kept (acc P:LI):Prop where
 sub:∀ p∈acc,p∈P
 anti:∀ p∈acc,∀ q∈acc,leP p q=true->p=q
 nodup:acc.Nodup
 cov:∀ q∈P,∃ p∈acc,leP p q=true
theorem Kept.step {acc P:LI} {x:Int×Int} (h:Kept acc P) (hx:okP x=true):Kept (earlStep acc x) (P++[x]):=by
 unfold earlStep
 split
 ·rename_i ha;obtain ⟨p,hp,hle⟩:=any_iff.1 ha;refine ⟨fun p hp=>List.mem_append_left _ (h.sub p hp),h.anti,h.nodup,fun q hq=>?_⟩
  rcases List.mem_append.1 hq with hq|hq
  ·exact h.cov q hq
  ·obtain rfl:q=x:=by simpa using hq
   exact ⟨p,hp,hle⟩
 ·rename_i ha;have hno:∀ p∈acc,leP p x=false:=fun p hp=>by
   cases e:leP p x
   ·rfl
   ·exact absurd (any_iff.2 ⟨p,hp,e⟩) ha
  have hmem:∀ p,p∈acc.filter (offB x.1 x.2)++[x]->(p∈acc/\leP x p=false)\/p=x:=fun p hp=>by
   rcases List.mem_append.1 hp with hp|hp
   ·obtain ⟨h1,h2⟩:=List.mem_filter.1 hp;refine .inl ⟨h1,?_⟩
    simpa [offB] using h2
   ·exact .inr (by simpa using hp)
  refine ⟨fun p hp=>?_,fun p hp q hq hle=>?_,?_,fun q hq=>?_⟩
  ·rcases hmem p hp with ⟨h1,_⟩|rfl
   ·exact List.mem_append_left _ (h.sub p h1)
   ·simp
  ·rcases hmem p hp with ⟨h1,h2⟩|rfl<;>rcases hmem q hq with ⟨h3,h4⟩|rfl
   ·exact h.anti p h1 q h3 hle
   ·rw [hno p h1] at hle;cases hle
   ·rw [h4] at hle;cases hle
   ·rfl
  ·rw [List.nodup_append];refine ⟨h.nodup.filter _,by simp,fun a ha b hb=>?_⟩;obtain rfl:b=x:=by simpa using hb
   rintro rfl;have:=hno a (List.mem_filter.1 ha).1;rw [leP_refl hx] at this;cases this
  ·rcases List.mem_append.1 hq with hq|hq
   ·obtain ⟨p,hp,hle⟩:=h.cov q hq;cases e:leP x p
    ·exact ⟨p,List.mem_append_left _ (List.mem_filter.2 ⟨hp,by simp [offB];exact e⟩),hle⟩
    ·exact ⟨x,by simp,leB_trans e hle⟩
   ·obtain rfl:q=x:=by simpa using hq
    exact ⟨q,by simp,leP_refl hx⟩
theorem Kept.fold {xs:LI}:∀ {acc P:LI},Kept acc P->(∀ p∈xs,okP p=true)->Kept (xs.foldl earlStep acc) (P++xs):=by
 induction xs with
 | nil=>intro acc P h _;simpa using h
 | cons x xs ih =>
  intro acc P h hx;have h1:=h.step (hx x (by simp));have h2:=ih h1 (fun p hp=>hx p (by simp [hp]))
  simpa using h2
theorem aok_mem {l:LI} (h:aokB l=true):∀ p∈l,okP p=true:=by
 intro p hp;obtain ⟨k,hk,rfl⟩:=List.getElem_of_mem hp;unfold aokB at h;rw [List.all_eq_true] at h;have:=h k (by simpa using hk)
 simpa [tA,tB,hk] using this
theorem earl_kept {l:LI} (h:aokB l=true):Kept (earlTo l l.length) l:=by
 unfold earlTo;rw [List.take_length];have:=Kept.fold (xs:=l) (acc:=[]) (P:=[]) ⟨by simp,by simp,by simp,by simp⟩ (aok_mem h)
 simpa using this
theorem Kept.iff {acc P:LI} (h:Kept acc P) (p:Int×Int):p∈acc↔p∈P/\∀ q∈P,leP q p=true->q=p:=by
 constructor
 ·intro hp;refine ⟨h.sub p hp,fun q hq hle=>?_⟩;obtain ⟨r,hr,hrq⟩:=h.cov q hq;obtain rfl:=h.anti r hr p hp (leB_trans hrq hle);exact leP_anti hle hrq
 ·rintro ⟨hp,hmin⟩;obtain ⟨r,hr,hrp⟩:=h.cov p hp;rw [<- hmin r (h.sub r hr) hrp];exact hr
theorem least_iff {l:LI} {a b:Int}:leastB l a b=true↔(a,b)∈l/\∀ q∈l,leP q (a,b)=true->q=(a,b):=by
 have e:∀ i,(hi:i<l.length)->eqAt l a b i=decide (l[i]=(a,b)):=fun i hi=>by
  unfold eqAt;simp [tA,tB,hi,Prod.ext_iff]
 have e2:∀ i,(hi:i<l.length)->leB (tA l i) (tB l i) a b=leP l[i] (a,b):=fun i hi=>by simp [tA,tB,hi]
 unfold leastB memTo lowTo;rw [Bool.and_eq_true,List.any_eq_true,Bool.not_eq_true',List.any_eq_false];constructor
 ·rintro ⟨⟨i,hi,h1⟩,h2⟩;rw [List.mem_range] at hi;rw [e i hi] at h1;refine ⟨by have:=List.getElem_mem hi;rw [of_decide_eq_true h1] at this;exact this,fun q hq hle=>?_⟩;obtain ⟨j,hj,rfl⟩:=List.getElem_of_mem hq;have:=h2 j (List.mem_range.2 hj);unfold lowAt at this;rw [e j hj,e2 j hj,hle] at this
  simpa using this
 ·rintro ⟨h1,h2⟩;obtain ⟨i,hi,h3⟩:=List.getElem_of_mem h1;refine ⟨⟨i,List.mem_range.2 hi,by rw [e i hi];simpa using h3⟩,fun j hj=>?_⟩;rw [List.mem_range] at hj;unfold lowAt;rw [e j hj,e2 j hj];have:=h2 l[j] (List.getElem_mem hj);cases hle:leP l[j] (a,b)
  ·simp
  ·simp [this hle]
theorem front_mem {l:LI} (h:aokB l=true) (p:Int×Int):p∈frontL l↔p∈l/\∀ q∈l,leP q p=true->q=p:=by
 unfold frontL;rw [if_pos h];unfold frTo;rw [List.mem_map];constructor
 ·rintro ⟨i,hi,rfl⟩;exact least_iff.1 (List.mem_filter.1 hi).2
 ·rintro ⟨h1,h2⟩;have ho:=okB_iff.1 (aok_mem h p h1);have e1:gA (p.1.toNat*8+(7-p.2).toNat)=p.1:=by unfold gA;omega
  have e2:gB (p.1.toNat*8+(7-p.2).toNat)=p.2:=by unfold gB;omega
  refine ⟨p.1.toNat*8+(7-p.2).toNat,List.mem_filter.2 ⟨List.mem_range.2 (by omega),?_⟩,by rw [e1,e2]⟩;rw [e1,e2];exact least_iff.2 ⟨h1,h2⟩
theorem front_up (l:LI):(frontL l).Pairwise fun p q=>p.1<q.1:=by
 unfold frontL
 split
 ·rename_i h;unfold frTo;rw [List.pairwise_map,List.pairwise_filter];refine List.Pairwise.imp_of_mem ?_ (List.pairwise_lt_range (n:=64));intro i j hi hj hij h1 h2;rw [List.mem_range] at hi hj;have a1:gA i<=gA j:=by unfold gA;omega
  have a2:gA i=gA j->gB j<gB i:=by unfold gA gB;omega
  by_cases e:gA i=gA j
  ·have h3:=least_iff.1 h1;have h4:=least_iff.1 h2;have o1:=aok_mem h _ h3.1;have o2:=aok_mem h _ h4.1;have:=h3.2 _ h4.1 (leB_iff.2 ⟨o2,o1,by simp;omega,by have:=a2 e;simp;omega⟩);rw [Prod.ext_iff] at this;have:=a2 e;simp at *;omega
  ·omega
 ·simp
theorem up_nodup {l:LI} (h:l.Pairwise fun p q=>p.1<q.1):l.Nodup:=h.imp fun {p q} hlt e=>by subst e;omega
theorem up_inj {l:LI} (h:l.Pairwise fun p q=>p.1<q.1):∀ p∈l,∀ q∈l,p.1=q.1->p=q:=by
 induction h with
 | nil=>simp
 | cons hd _ ih =>
  intro p hp q hq e
  rcases List.mem_cons.1 hp with rfl|hp1<;>rcases List.mem_cons.1 hq with rfl|hq1
  ·rfl
  ·have:=hd q hq1;omega
  ·have:=hd p hp1;omega
  ·exact ih p hp1 q hq1 e
theorem up_len {l:LI} (h:l.Pairwise fun p q=>p.1<q.1):∀ lo:Nat,(∀ p∈l,(lo:Int)<=p.1/\p.1<=7)->l.length<=8-lo:=by
 induction h with
 | nil=>simp
 | cons hd _ ih =>
  rename_i a l _;intro lo hlo;obtain ⟨h1,h2⟩:=hlo a (by simp);have:=ih (lo+1) (fun p hp=>by have:=hd p hp;have:=hlo p (by simp [hp]);omega);simp;omega
theorem front_ok {l:LI}:∀ p∈frontL l,okP p=true:=by
 intro p hp;cases h:aokB l
 ·unfold frontL at hp;rw [h] at hp;simp at hp
 ·exact aok_mem h p ((front_mem h p).1 hp).1
theorem front_len8 (l:LI):(frontL l).length<=8 :=
 up_len (front_up l) 0 fun p hp=>by have:=okB_iff.1 (front_ok p hp);omega
theorem earl_perm {l:LI} (h:aokB l=true):(earlTo l l.length).Perm (frontL l) :=
 (List.perm_ext_iff_of_nodup (earl_kept h).nodup (up_nodup (front_up l))).2 fun p=>((earl_kept h).iff p).trans (front_mem h p).symm
theorem at_mem {l:LI} {k:Nat} (hk:k<l.length):(tA l k,tB l k)∈l:=by
 have e:l[k]=(tA l k,tB l k):=by simp [tA,tB,hk]
 rw [<- e];exact List.getElem_mem hk
theorem mem_at {l:LI} {p:Int×Int} (h:p∈l):∃ k,k<l.length/\p=(tA l k,tB l k):=by
 obtain ⟨k,hk,rfl⟩:=List.getElem_of_mem h;exact ⟨k,hk,by simp [tA,tB,hk]⟩
theorem fok_aok {l:LI} (h:fokB l=true):aokB l=true:=aok_true fun _ hj=>fok_ok h hj
theorem fok_far {l:LI} (h:fokB l=true) (i:Nat):∀ d,i+d+1<l.length->tA l i<tA l (i+d+1)/\tB l (i+d+1)<tB l i:=by
 intro d
 induction d with
 | zero =>
  intro hd;have:=fok_at h hd;simp [stepOk] at this;exact ⟨this.2.1,this.2.2⟩
 | succ d ih =>
  intro hd;have h1:=ih (by omega);have h2:=fok_at h hd;simp [stepOk] at h2;have e:i+(d+1)=i+d+1:=by omega
  rw [e] at h2 ⊢;omega
theorem fok_up {l:LI} (h:fokB l=true):l.Pairwise fun p q=>p.1<q.1:=by
 rw [List.pairwise_iff_getElem];intro i j hi hj hij;have:=(fok_far h i (j-i-1) (by omega)).1;rw [show i+(j-i-1)+1=j by omega] at this
 simpa [tA,hi,hj] using this
theorem fok_anti {l:LI} (h:fokB l=true):∀ p∈l,∀ q∈l,leP p q=true->p=q:=by
 intro p hp q hq hle;obtain ⟨i,hi,rfl⟩:=mem_at hp;obtain ⟨j,hj,rfl⟩:=mem_at hq;have h1:=leB_iff.1 hle;simp only at h1
 rcases Nat.lt_trichotomy i j with hij|rfl|hij
 ·have:=fok_far h i (j-i-1) (by omega);rw [show i+(j-i-1)+1=j by omega] at this;omega
 ·rfl
 ·have:=fok_far h j (i-j-1) (by omega);rw [show j+(i-j-1)+1=i by omega] at this;omega
theorem front_none {l:LI} (h:aokB l=false):frontL l=[]:=by unfold frontL;rw [h];rfl
theorem front_fok (l:LI):fokB (frontL l)=true:=by
 cases h:aokB l
 ·rw [front_none h];rfl
 ·refine fok_true fun j hj=>?_;have ho:=front_ok _ (at_mem hj);unfold stepOk;rw [show okB (tA (frontL l) j) (tB (frontL l) j)=true from ho,Bool.true_and]
  rcases j with _|m
  ·simp
  ·have hm:m<(frontL l).length:=by omega
   have h1:=List.pairwise_iff_getElem.1 (front_up l) m (m+1) hm hj (by omega);have p1:=at_mem hm;have p2:=at_mem hj;have h2:tA (frontL l) m<tA (frontL l) (m+1):=by simpa [tA,hm,hj] using h1
   have h3:tB (frontL l) (m+1)<tB (frontL l) m:=by
    rcases Int.lt_or_le (tB (frontL l) (m+1)) (tB (frontL l) m) with h3|h3
    ·exact h3
    ·have:=((front_mem h _).1 p2).2 _ ((front_mem h _).1 p1).1 (leB_iff.2 ⟨front_ok _ p1,front_ok _ p2,by simp;omega,by simp;omega⟩);rw [Prod.ext_iff] at this;simp at this;omega
   simp [h2,h3]
theorem front_cov {l:LI} (h:aokB l=true):∀ q∈l,∃ p∈frontL l,leP p q=true:=by
 intro q hq;obtain ⟨p,hp,hle⟩:=(earl_kept h).cov q hq;exact ⟨p,(earl_perm h).mem_iff.1 hp,hle⟩
theorem front_any {l:LI} (h:aokB l=true) (X Y:Int):anyB (frontL l) X Y=anyB l X Y:=by
 rw [Bool.eq_iff_iff];constructor
 ·intro h1;obtain ⟨p,hp,hle⟩:=any_iff.1 h1;exact any_iff.2 ⟨p,((front_mem h p).1 hp).1,hle⟩
 ·intro h1;obtain ⟨q,hq,hle⟩:=any_iff.1 h1;obtain ⟨p,hp,hpq⟩:=front_cov h q hq;exact any_iff.2 ⟨p,hp,leB_trans hpq hle⟩
theorem fok_sub {f g:LI} (hf:fokB f=true) (h:∀ X Y,anyB f X Y=anyB g X Y):∀ p∈f,p∈g:=by
 intro p hp;have ho:=aok_mem (fok_aok hf) p hp;have h1:anyB g p.1 p.2=true:=by rw [<- h];exact any_iff.2 ⟨p,hp,leP_refl ho⟩
 obtain ⟨q,hq,hqp⟩:=any_iff.1 h1;have hqq:leP q q=true:=leP_refl (leB_iff.1 hqp).1;have h2:anyB f q.1 q.2=true:=by rw [h];exact any_iff.2 ⟨q,hq,hqq⟩
 obtain ⟨r,hr,hrq⟩:=any_iff.1 h2;obtain rfl:=fok_anti hf r hr p hp (leB_trans hrq hqp);rw [leP_anti hrq hqp];exact hq
theorem up_eq {f g:LI} (hf:f.Pairwise fun p q=>p.1<q.1) (hg:g.Pairwise fun p q=>p.1<q.1) (h:∀ p,p∈f↔p∈g):f=g:=by
 have hp:f.Perm g:=(List.perm_ext_iff_of_nodup (up_nodup hf) (up_nodup hg)).2 h;refine List.Perm.eq_of_pairwise (le:=fun p q=>p.1<=q.1) ?_ (hf.imp fun {p q} h=>Int.le_of_lt h) (hg.imp fun {p q} h=>Int.le_of_lt h) hp;intro p q hp3 hq3 h1 h2;exact up_inj hg p ((h p).1 hp3) q hq3 (by omega)
theorem fok_eq {f g:LI} (hf:fokB f=true) (hg:fokB g=true) (h:∀ X Y,anyB f X Y=anyB g X Y):f=g :=
 up_eq (fok_up hf) (fok_up hg) fun p=>⟨fok_sub hf h p,fok_sub hg (fun X Y=>(h X Y).symm) p⟩
theorem front_self {f:LI} (hf:fokB f=true):frontL f=f :=
 fok_eq (front_fok f) hf fun X Y=>front_any (fok_aok hf) X Y
theorem fok_len8 {f:LI} (hf:fokB f=true):f.length<=8:=by
 have:=front_len8 f;rw [front_self hf] at this;exact this
theorem implFrontOk_eq {l:LI} {r:Bool} (h:fokB l=r) {v:Value} {w:World} (ht:Ts w v l):Calls Tryz.prog 80 #[v] w fun e w'=>e= .returned (.bool r)/\Below w.heap.size w w':=by
 rw [<- h];exact implFrontOk_any v l w ht
end Go.Proofs.YtbdpcngcbnoioaaGreatDoor
namespace Go.Proofs.YtbdpcngcbnoioaaGreatDoor
open Go.RowKit
variable {g N:Nat} {L:Array Bool} {W W':World} {t3 t4 t5 t6 t7 t8 t9 t10 t11 t12 t13 t14 t15 t16 t17:Value}
theorem getD_set {L:Array Bool} {i j:Nat} (h:i≠j) (e:(L.setIfInBounds i true).getD j false=true):L.getD j false=true:=by
 simp only [Array.getD_eq_getD_getElem?,Array.getElem?_setIfInBounds] at e ⊢;rw [if_neg h] at e;exact e
theorem gS {L:Array Bool} {i j:Nat} (e:(L.setIfInBounds i true).getD j false=true) (h:i≠j:=by decide):L.getD j false=true:=getD_set h e
end Go.Proofs.YtbdpcngcbnoioaaGreatDoor
namespace Go.Proofs.YtbdpcngcbnoioaaGreatDoor
open Go.RowKit
theorem getD_setT {L:Array Bool} {i j:Nat} (h:i≠j) (e:(L.setIfInBounds i true).getD j true=false):L.getD j true=false:=by
 simp only [Array.getD_eq_getD_getElem?,Array.getElem?_setIfInBounds] at e ⊢;rw [if_neg h] at e;exact e
theorem gT {L:Array Bool} {i j:Nat} (e:(L.setIfInBounds i true).getD j true=false) (h:i≠j:=by decide):L.getD j true=false:=getD_setT h e
section
variable {ops:Array Oper} {o:Oper} {a:Act} {Kk:Act->World->Prop} {Q:Exit->Act->World->Prop} {E:Prop}
theorem stepRs (w:World) (hgd:o.guard=none) (s x:Operand) (ho:o.op= .call { callee:= .builtin .append,args:=#[s,x],argTypes:=#[28,28] })
  (base:Nat) (v:Value) (l:List Rw) (hs:a.eval s=v) (hown:OwnR w base v l) (v2:Value) (m:List Rw) (hx:a.eval x=v2) (hR:Rs w v2 m) (hl:l.length+m.length<=2000000) (hbase:base<=w.heap.size)
  (h:∀ v' w',OwnR w' base v' (l++m)->w.grownBy w' v.ownBlock->Kk (a.put o.dst v') w') :
  if Region.wanted o (yielded ops a.tmps)=true then Oper.wp Tryz.prog o a w Kk Q else E:=by
 have hw:Region.wanted o (yielded ops a.tmps)=true:=by simp [Region.wanted,hgd]
 rw [if_pos hw];obtain ⟨i0,hi,hz0,hz1,hz2⟩:=info_parts infoR;obtain ⟨ad,cap,rfl,hsrc⟩:=rs_src hR
 by_cases hm0:m=[]
 ·subst hm0;have hrun:=app_zero hown ad cap o.type;unfold Oper.wp;simp [execOp,ho,resolve,invoke,builtin,hs,hx,hrun,Result.andThen];exact h v w (by simpa using hown) ⟨rfl,rfl,rfl,Nat.le_refl _,fun _ _ _=>rfl⟩
 ·obtain ⟨g,off,rfl,hnews⟩:=hsrc hm0;have hpos:0<m.length:=List.length_pos_iff.2 hm0;refine wp_append_lies w s x 28 ho base 55 i0 _ 5 40 Tryz.underlying28 hi hz0 hz1 hz2 rfl (by decide) v l.length (l.flatMap rowC) hs hown ⟨g,off,none⟩ m.length cap (m.flatMap rowC) hx (flat_len rowC_len m) hnews (onesRs m) hpos (by unfold maxLen;omega) (by omega) hbase w.heap.size rfl ?_;intro g' cap' w' h1 h2 _ _;refine h _ w' ?_ h2
  show w'.ownsRow _ _ _ _ _ _
  rw [List.flatMap_append,List.length_append];exact h1
end
end Go.Proofs.YtbdpcngcbnoioaaGreatDoor
namespace Go.Proofs.YtbdpcngcbnoioaaGreatDoor
open Go.RowKit
end Go.Proofs.YtbdpcngcbnoioaaGreatDoor
namespace Go.Proofs.YtbdpcngcbnoioaaGreatDoor
open Go.RowKit
end Go.Proofs.YtbdpcngcbnoioaaGreatDoor
