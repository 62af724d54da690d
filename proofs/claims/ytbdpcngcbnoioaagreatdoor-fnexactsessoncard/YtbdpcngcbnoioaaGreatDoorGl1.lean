import Derived.Test.YtbdpcngcbnoioaaGreatDoorGtX
import Derived.Test.YtbdpcngcbnoioaaGreatDoorGd3
namespace Go.Proofs.YtbdpcngcbnoioaaGreatDoor
def eachR (how:Int) (l:List Rw):List Rw:=(l.filter fun r=>wayP how r.1.1).map fun r=>((wayM how r.1.1,r.1.2),r.2)
def jnS (s t:Sp):Sp:=((s.1.1,pv s.1.2 t.1.2),(jnA s.2.1 s.2.2 t.2.1 t.2.2,jnB s.2.1 s.2.2 t.2.1 t.2.2))
def rowJ (x:Rw) (t:List Rw):List Rw:=(t.filter fun y=>decide (x.1.1.1=y.1.1.1)).map fun y=>(jnS x.1 y.1,x.2*y.2)
def pairR (s t:List Rw):List Rw:=s.flatMap fun x=>rowJ x t
theorem eachR_len (how:Int) (l:List Rw):(eachR how l).length<=l.length:=by
 unfold eachR;rw [List.length_map];exact List.length_filter_le _ _
theorem eachR_abs (how:Int) (l:List Rw):absum (eachR how l)<=absum l:=by
 induction l with
 | nil=>simp [eachR]
 | cons r l ih =>
  unfold eachR at ih ⊢;rw [List.filter_cons]
  by_cases h:wayP how r.1.1=true
  ·simp only [h,if_true,List.map_cons,absum];omega
  ·rw [if_neg h];simp only [absum];omega
theorem rw_k {r:Rw} (h:rwOkB r=true):itK r.1.1:=by
 obtain ⟨h1,h2,_⟩:=rw_parts h;simp only [inB,decide_eq_true_eq] at h1 h2;exact ⟨h1.1,h1.2,h2.1,h2.2⟩
theorem key_ok {s:Sp} (h:itK s.1) (h':okB s.2.1 s.2.2=true):inB s.1.1 0 3=true/\inB s.1.2 0 99=true/\okB s.2.1 s.2.2=true:=by
 obtain ⟨h1,h2,h3,h4⟩:=h;exact ⟨by simp [inB];omega,by simp [inB];omega,h'⟩
theorem eachR_key {how:Int} {l:List Rw} (h:rokB l=true):∀ r∈eachR how l,itK r.1.1/\okB r.1.2.1 r.1.2.2=true:=fun r hr=>by
 unfold eachR at hr;obtain ⟨q,hq,rfl⟩:=List.mem_map.1 hr;have hk:=rok_at h (List.mem_filter.1 hq).1;exact ⟨way_k (rw_k hk),rw_time (r:=q) hk⟩
theorem eachR_rok {how:Int} {l:List Rw} (h:rokB l=true):rokB (eachR how l)=true:=by
 refine rok_mk (Nat.le_trans (eachR_len how l) (rLz h)) fun r hr=>?_;obtain ⟨h1,h2⟩:=eachR_key h r hr;obtain ⟨k1,k2,k3⟩:=key_ok h1 h2;unfold eachR at hr;obtain ⟨q,hq,rfl⟩:=List.mem_map.1 hr;have hk:=rw_diff (rok_at h (List.mem_filter.1 hq).1);have k4:inB q.2 (-99999) 99999=true:=by simp [inB];omega
 simp only [rwOkB,k1,k2,k3,k4,Bool.and_self]
theorem atL_absF (l:List Rw) (x y:Int):absum (atL l x y)<=absum l:=by
 induction l with
 | nil=>simp [atL,absum]
 | cons r l ih =>
  unfold atL at ih ⊢;rw [List.filter_cons]
  by_cases h:leB r.1.2.1 r.1.2.2 x y=true
  ·simp only [h,if_true,List.map_cons,absum];omega
  ·rw [if_neg h];simp only [absum];omega
theorem atL_lenF (l:List Rw) (x y:Int):(atL l x y).length<=l.length:=by
 unfold atL;rw [List.length_map];exact List.length_filter_le _ _
theorem rok_absF {l:List Rw} (h:rokB l=true):absum l<=39999600:=by
 have h1:=absum_le (l:=l) (c:=99999) fun r hr=>rw_diff (rok_at h hr);have h2:=rLz h;have:(99999:Int)*l.length<=39999600:=by omega
 omega
theorem atL_k {l:List Rw} (h:rokB l=true) (x y:Int):∀ r∈atL l x y,itK r.1:=fun r hr=>by
 unfold atL at hr;obtain ⟨q,hq,rfl⟩:=List.mem_map.1 hr;exact rw_k (rok_at h (List.mem_filter.1 hq).1)
theorem items_sokF (l:List Rw) (x y:Int):sokB (itemsL l x y)=true:=by
 unfold itemsL;split
 ·rename_i h;rw [Bool.and_eq_true] at h;exact sum_sok (Nat.le_trans (atL_lenF l x y) (rLz h.1)) (atL_k h.1 x y) (by have:=atL_absF l x y;have:=rok_absF h.1;omega)
 ·exact sok_nil
theorem pairR_mem {s t:List Rw} {r:Rw} (h:r∈pairR s t):∃ x∈s,∃ y∈t,x.1.1.1=y.1.1.1/\r=(jnS x.1 y.1,x.2*y.2):=by
 unfold pairR at h;obtain ⟨x,hx,h⟩:=List.mem_flatMap.1 h;obtain ⟨y,hy,rfl⟩:=List.mem_map.1 h;obtain ⟨hy,e⟩:=List.mem_filter.1 hy;exact ⟨x,hx,y,hy,by simpa using e,rfl⟩
theorem pairR_len (s t:List Rw):(pairR s t).length<=s.length*t.length:=by
 induction s with
 | nil=>simp [pairR]
 | cons x s ih =>
  show (rowJ x t++pairR s t).length<=_
  rw [List.length_append,List.length_cons,Nat.add_mul];have:(rowJ x t).length<=t.length:=by unfold rowJ;rw [List.length_map];exact List.length_filter_le _ _
  omega
theorem rowJ_abs (x:Rw) (t:List Rw):absum (rowJ x t)<=(x.2.natAbs:Int)*absum t:=by
 induction t with
 | nil=>simp [rowJ,absum]
 | cons y t ih =>
  unfold rowJ at ih ⊢;rw [List.filter_cons];have hp:(0:Int)<=(x.2.natAbs:Int)*(y.2.natAbs:Int):=Int.mul_nonneg (by omega) (by omega)
  by_cases h:x.1.1.1=y.1.1.1
  ·simp only [h,decide_true,if_true,List.map_cons,absum];rw [<- h,Int.mul_add,Int.natAbs_mul];have:((x.2.natAbs*y.2.natAbs:Nat):Int)=(x.2.natAbs:Int)*(y.2.natAbs:Int):=by simp
   omega
  ·rw [if_neg (by simpa using h)];simp only [absum,Int.mul_add];omega
theorem pairR_abs (s t:List Rw):absum (pairR s t)<=absum s*absum t:=by
 induction s with
 | nil=>simp [pairR,absum]
 | cons x s ih =>
  show absum (rowJ x t++pairR s t)<=_
  rw [absum_append];have:=rowJ_abs x t;simp only [absum,Int.add_mul];omega
theorem pairR_small {s t:List Rw} {c d:Int} (h1:absum s<=c) (h2:absum t<=d):absum (pairR s t)<=c*d:=by
 have h3:=pairR_abs s t;have h4:absum s*absum t<=c*absum t:=Int.mul_le_mul_of_nonneg_right h1 (absum_pos t);have h5:c*absum t<=c*d:=Int.mul_le_mul_of_nonneg_left h2 (Int.le_trans (absum_pos s) h1);omega
theorem pairR_key {s t:List Rw} (hs:rokB s=true) (ht:rokB t=true):∀ r∈pairR s t,itK r.1.1/\okB r.1.2.1 r.1.2.2=true:=fun r hr=>by
 obtain ⟨x,hx,y,hy,_,rfl⟩:=pairR_mem hr;have kx:=rok_at hs hx;have ky:=rok_at ht hy;obtain ⟨h1,h2,_⟩:=rw_k kx;exact ⟨⟨h1,h2,by simp only [jnS,pv];omega,by simp only [jnS,pv];omega⟩,jn_ok (rw_time kx) (rw_time ky)⟩
theorem at_cons (r:Rw) (l:List Rw) (x y:Int):atL (r::l) x y=if leB r.1.2.1 r.1.2.2 x y then (r.1.1,r.2)::atL l x y else atL l x y:=by
 unfold atL;rw [List.filter_cons];split<;>rfl
theorem at_append (l m:List Rw) (x y:Int):atL (l++m) x y=atL l x y++atL m x y:=by simp [atL]
def partK (kind:Int) (s:List It) (k:Int):List It:=if kind=1 then kC s k else if kind=2 then (onceT s).filter fun r=>decide (r.1.1=k) else leastK s k
def sumK (kind:Int) (s:List It):List It:=if kind=1 then countS s else if kind=2 then onceS s else leastS s
theorem sumK_parts (kind:Int) {s:List It} (h:sokB s=true):sumK kind s=partK kind s 0++partK kind s 1++partK kind s 2++partK kind s 3:=by
 unfold sumK partK
 by_cases h1:kind=1
 ·simp only [h1,if_true];exact countS_yes h
 ·by_cases h2:kind=2
  ·subst h2;simp only [if_true];rw [if_neg (by omega),if_neg (by omega),if_neg (by omega),if_neg (by omega),if_neg (by omega),onceS_yes h];exact (split_keys (once_srt (sok_srt h)) (once_keys h)).symm
  ·simp only [if_neg h1,if_neg h2];exact leastS_yes h
theorem partK_mem {kind:Int} {s:List It} {k:Int} {r:It} (h:r∈partK kind s k):r.1.1=k/\r.2=1:=by
 unfold partK at h
 split at h
 ·rw [(countK_mem h).1];exact ⟨rfl,rfl⟩
 ·split at h
  ·obtain ⟨h1,h2⟩:=List.mem_filter.1 h;exact ⟨by simpa using h2,(once_mem.1 h1).1⟩
  ·unfold leastK at h;obtain ⟨h1,h2⟩:=List.mem_filter.1 (List.mem_of_mem_take h);exact ⟨by simpa using h2,(once_mem.1 h1).1⟩
theorem keyN_other {s:List It} {k j:Int} (h:∀ r∈s,r.1.1=k) (hj:j≠k):keyN s j=0:=by
 unfold keyN
 induction s with
 | nil=>rfl
 | cons r s ih =>
  rw [wsum,ih (fun q hq=>h q (by simp [hq])),if_neg (by rw [h r (by simp)];exact fun e=>hj e.symm)];simp
theorem partK_other {kind:Int} {s:List It} {k j:Int} (h:∀ r∈s,r.1.1=k) (hj:j≠k):partK kind s j=[]:=by
 have h1:(onceT s).filter (fun r=>decide (r.1.1=j))=[]:=by
  rw [List.filter_eq_nil_iff];intro r hr e;obtain ⟨_,q,hq,_,e1⟩:=once_mem.1 hr;have:=h q hq;rw [e1] at this;exact hj (by simpa using (by simpa using e:r.1.1=j).symm.trans this)
 unfold partK
 split
 ·unfold kC;rw [keyN_other h hj,if_pos rfl]
 ·split
  ·exact h1
  ·unfold leastK;rw [h1];rfl
theorem sumK_one (kind:Int) {s:List It} {k:Int} (h:sokB s=true) (hk:∀ r∈s,r.1.1=k) (h0:0<=k) (h3:k<=3):sumK kind s=partK kind s k:=by
 rw [sumK_parts kind h];have o:∀ j:Int,j≠k->partK kind s j=[]:=fun j hj=>partK_other hk hj;obtain rfl|rfl|rfl|rfl:k=0\/k=1\/k=2\/k=3:=by omega
 ·rw [o 1 (by omega),o 2 (by omega),o 3 (by omega)];simp
 ·rw [o 0 (by omega),o 2 (by omega),o 3 (by omega)];simp
 ·rw [o 0 (by omega),o 1 (by omega),o 3 (by omega)];simp
 ·rw [o 0 (by omega),o 1 (by omega),o 2 (by omega)];simp
theorem sumK_nil (kind:Int):sumK kind []=[]:=by
 unfold sumK
 split
 ·rfl
 ·split<;>rfl
theorem sumK_sok (kind:Int) {s:List It} (h:sokB s=true):sokB (sumK kind s)=true:=by
 unfold sumK
 split
 ·refine sok_of (by have:=countS_len s;omega) (fun r hr=>?_) (up_srt (countS_up s));obtain ⟨h1,_,h3,h4,h5⟩:=countS_mem hr;exact it_mk ⟨h4,h5,by omega,by omega,by omega,by omega,by omega⟩
 ·split
  ·rw [onceS_yes h];exact once_sok h
  ·exact leastS_sok h
theorem sumK_ones {kind:Int} {s:List It} {r:It} (h:sokB s=true) (hr:r∈sumK kind s):r.2=1:=by
 rw [sumK_parts kind h] at hr;simp only [List.mem_append] at hr
 rcases hr with ((hr|hr)|hr)|hr<;>exact (partK_mem hr).2
def sumT (g:Int×Int->Int):LI->Int
 | []=>0
 | t::l=>g t+sumT g l
theorem sumT_append (g:Int×Int->Int) (l m:LI):sumT g (l++m)=sumT g l+sumT g m:=by
 induction l with
 | nil=>simp [sumT]
 | cons t l ih=>simp only [List.cons_append,sumT,ih];omega
theorem sumT_congr {g h:Int×Int->Int} {l:LI} (e:∀ t∈l,g t=h t):sumT g l=sumT h l:=by
 induction l with
 | nil=>rfl
 | cons t l ih=>simp only [sumT];rw [e t (by simp),ih (fun q hq=>e q (by simp [hq]))]
theorem sumT_filter (g:Int×Int->Int) (p:Int×Int->Bool) (l:LI):sumT g (l.filter p)=sumT (fun t=>if p t then g t else 0) l:=by
 induction l with
 | nil=>rfl
 | cons t l ih =>
  rw [List.filter_cons]
  by_cases h:p t=true
  ·simp only [h,if_true,sumT,ih]
  ·rw [if_neg h,ih,sumT,if_neg h];simp
theorem sumT_zero {g:Int×Int->Int} {l:LI} (e:∀ t∈l,g t=0):sumT g l=0:=by
 induction l with
 | nil=>rfl
 | cons t l ih=>simp only [sumT];rw [e t (by simp),ih (fun q hq=>e q (by simp [hq]))];rfl
def gridRow (a m:Nat):LI:=(List.range m).map fun b=>((a:Int),((b:Nat):Int))
def gridTo (n:Nat):LI:=(List.range n).flatMap fun a=>gridRow a 8
def grid:LI:=gridTo 8
theorem grid_mem {t:Int×Int}:t∈grid↔okB t.1 t.2=true:=by
 rw [okB_iff];unfold grid gridTo gridRow;simp only [List.mem_flatMap,List.mem_map,List.mem_range];constructor
 ·rintro ⟨a,ha,b,hb,rfl⟩;simp only;omega
 ·rintro ⟨h1,h2,h3,h4⟩;exact ⟨t.1.toNat,by omega,t.2.toNat,by omega,Prod.ext (by simp only;omega) (by simp only;omega)⟩
theorem grid_srt:grid.Pairwise fun p q=>ltT p q=true:=by decide
theorem grid_len:grid.length=64:=by decide
section
variable {E:Int->Int->Int} (h0:∀ x y,okB x y=false->E x y=0) {X Y:Int} (hX:okB X Y=true)
include h0 hX
theorem tele_row (a:Nat) (ha:a<8) (m:Nat) (hm:m<=8) :
  sumT (fun t=>if leB t.1 t.2 X Y then E t.1 t.2-E (t.1-1) t.2-E t.1 (t.2-1)+E (t.1-1) (t.2-1) else 0) (gridRow a m) =
   if (a:Int)<=X then E a (min ((m:Int)-1) Y)-E (a-1) (min ((m:Int)-1) Y) else 0:=by
 rw [okB_iff] at hX
 induction m with
 | zero =>
  have e:min (((0:Nat):Int)-1) Y = -1:=by omega
  rw [e,h0 _ (-1) (by simp [okB]),h0 _ (-1) (by simp [okB])];simp [gridRow,sumT]
 | succ m ih =>
  have e:gridRow a (m+1)=gridRow a m++[((a:Int),(m:Int))]:=by unfold gridRow;rw [List.range_succ,List.map_append];rfl
  rw [e,sumT_append,ih (by omega)];simp only [sumT];have hl:leB (a:Int) (m:Int) X Y=decide ((a:Int)<=X/\(m:Int)<=Y):=by
   rw [Bool.eq_iff_iff,leB_iff,okB_iff,okB_iff,decide_eq_true_eq];omega
  rw [hl]
  by_cases h1:(a:Int)<=X
  ·by_cases h2:(m:Int)<=Y
   ·have e1:min ((m:Int)-1) Y=(m:Int)-1:=by omega
    have e2:min (((m+1:Nat):Int)-1) Y=(m:Int):=by omega
    rw [e1,e2];simp only [h1,h2,and_self,decide_true,if_true];omega
   ·have e1:min ((m:Int)-1) Y=Y:=by omega
    have e2:min (((m+1:Nat):Int)-1) Y=Y:=by omega
    rw [e1,e2];simp only [h1,h2,and_false,decide_false,if_true,Bool.false_eq_true,if_false];omega
  ·simp only [h1,false_and,decide_false,Bool.false_eq_true,if_false];omega
theorem tele_to (n:Nat) (hn:n<=8) :
  sumT (fun t=>if leB t.1 t.2 X Y then E t.1 t.2-E (t.1-1) t.2-E t.1 (t.2-1)+E (t.1-1) (t.2-1) else 0) (gridTo n)=E (min ((n:Int)-1) X) Y:=by
 have hX':=okB_iff.1 hX
 induction n with
 | zero =>
  have e:min (((0:Nat):Int)-1) X = -1:=by omega
  rw [e,h0 (-1) _ (by simp [okB])];simp [gridTo,sumT]
 | succ n ih =>
  have e:gridTo (n+1)=gridTo n++gridRow n 8:=by unfold gridTo;rw [List.range_succ,List.flatMap_append];simp
  rw [e,sumT_append,ih (by omega),tele_row h0 hX n (by omega) 8 (by omega)];have e3:min (((8:Nat):Int)-1) Y=Y:=by omega
  rw [e3]
  by_cases h1:(n:Int)<=X
  ·have e1:min ((n:Int)-1) X=(n:Int)-1:=by omega
   have e2:min (((n+1:Nat):Int)-1) X=(n:Int):=by omega
   rw [e1,e2,if_pos h1];omega
  ·have e1:min ((n:Int)-1) X=X:=by omega
   have e2:min (((n+1:Nat):Int)-1) X=X:=by omega
   rw [e1,e2,if_neg h1];omega
theorem tele:sumT (fun t=>if leB t.1 t.2 X Y then E t.1 t.2-E (t.1-1) t.2-E t.1 (t.2-1)+E (t.1-1) (t.2-1) else 0) grid=E X Y:=by
 have:=tele_to h0 hX 8 (by omega);have hX':=okB_iff.1 hX;have e:min (((8:Nat):Int)-1) X=X:=by omega
 rw [e] at this;exact this
end
def inJ (l:List Rw) (t:Int×Int):Bool:=l.any fun p=>l.any fun q=>decide ((max p.1.2.1 q.1.2.1,max p.1.2.2 q.1.2.2)=t)
def jT (l:List Rw):LI:=grid.filter (inJ l)
theorem inJ_iff {l:List Rw} {t:Int×Int}:inJ l t=true↔∃ p∈l,∃ q∈l,max p.1.2.1 q.1.2.1=t.1/\max p.1.2.2 q.1.2.2=t.2:=by
 unfold inJ;simp only [List.any_eq_true,decide_eq_true_eq,Prod.ext_iff]
theorem jtimes_mem {l:List Rw} {t:Int×Int}:t∈jT l↔okB t.1 t.2=true/\inJ l t=true:=by
 unfold jT;rw [List.mem_filter,grid_mem]
theorem jtimes_srt (l:List Rw):(jT l).Pairwise fun p q=>ltT p q=true:=grid_srt.filter _
theorem jtimes_len (l:List Rw):(jT l).length<=64:=by
 have:=List.length_filter_le (inJ l) grid;rw [grid_len] at this;exact this
theorem items_out (l:List Rw) {x y:Int} (h:okB x y=false):itemsL l x y=[]:=by simp [itemsL,h]
theorem at_none {l:List Rw} {x y:Int} (h:∀ r∈l,leB r.1.2.1 r.1.2.2 x y=false):atL l x y=[]:=by
 unfold atL;rw [List.filter_eq_nil_iff.2 (fun r hr=>by rw [h r hr];simp)];rfl
theorem still_a {l:List Rw} {x y:Int} (h:rokB l=true) (hx:okB x y=true) (hn:∀ r∈l,leB r.1.2.1 r.1.2.2 x y=true->r.1.2.1≠x):itemsL l (x-1) y=itemsL l x y:=by
 have hx':=okB_iff.1 hx
 by_cases h1:x=0
 ·rw [items_out l (by subst h1;simp [okB]),items_yes h hx,at_none,show sumL ltT ([]:List It)=[] from rfl];intro r hr;rw [Bool.eq_false_iff];intro e;have:=hn r hr e;rw [leB_iff,okB_iff] at e;omega
 ·have hx1:okB (x-1) y=true:=by rw [okB_iff];omega
  rw [items_yes h hx,items_yes h hx1]
  congr 1
  unfold atL
  congr 1
  refine List.filter_congr fun r hr=>?_;rw [Bool.eq_iff_iff];constructor
  ·intro e;rw [leB_iff,okB_iff] at e ⊢;exact ⟨e.1,hx,by omega,e.2.2.2⟩
  ·intro e;have:=hn r hr e;rw [leB_iff] at e ⊢;exact ⟨e.1,hx1,by omega,e.2.2.2⟩
theorem still_b {l:List Rw} {x y:Int} (h:rokB l=true) (hx:okB x y=true) (hn:∀ r∈l,leB r.1.2.1 r.1.2.2 x y=true->r.1.2.2≠y):itemsL l x (y-1)=itemsL l x y:=by
 have hx':=okB_iff.1 hx
 by_cases h1:y=0
 ·rw [items_out l (by subst h1;simp [okB]),items_yes h hx,at_none,show sumL ltT ([]:List It)=[] from rfl];intro r hr;rw [Bool.eq_false_iff];intro e;have:=hn r hr e;rw [leB_iff,okB_iff] at e;omega
 ·have hx1:okB x (y-1)=true:=by rw [okB_iff];omega
  rw [items_yes h hx,items_yes h hx1]
  congr 1
  unfold atL
  congr 1
  refine List.filter_congr fun r hr=>?_;rw [Bool.eq_iff_iff];constructor
  ·intro e;rw [leB_iff,okB_iff] at e ⊢;exact ⟨e.1,hx,by omega,by omega⟩
  ·intro e;have:=hn r hr e;rw [leB_iff] at e ⊢;exact ⟨e.1,hx1,by omega,by omega⟩
def difAt (kind:Int) (l:List Rw) (t:Int×Int):List It :=
 sumL ltT (sumK kind (itemsL l t.1 t.2)++negI (sumK kind (itemsL l (t.1-1) t.2))++negI (sumK kind (itemsL l t.1 (t.2-1)))++sumK kind (itemsL l (t.1-1) (t.2-1)))
theorem dif_tot (kind:Int) (l:List Rw) (t:Int×Int) (v:Int×Int):tot (difAt kind l t) v =
  tot (sumK kind (itemsL l t.1 t.2)) v-tot (sumK kind (itemsL l (t.1-1) t.2)) v-tot (sumK kind (itemsL l t.1 (t.2-1))) v+tot (sumK kind (itemsL l (t.1-1) (t.2-1))) v:=by
 unfold difAt;rw [sumL_tot ltT_ord,tot_append,tot_append,tot_append,neg_totI,neg_totI];omega
theorem dif_zero (kind:Int) {l:List Rw} {t:Int×Int} (h:rokB l=true) (ht:okB t.1 t.2=true) (hj:inJ l t=false) (v:Int×Int):tot (difAt kind l t) v=0:=by
 rw [dif_tot];have ht':=okB_iff.1 ht
 by_cases ha:∃ p∈l,leB p.1.2.1 p.1.2.2 t.1 t.2=true/\p.1.2.1=t.1
 ·have hb:∀ r∈l,leB r.1.2.1 r.1.2.2 t.1 t.2=true->r.1.2.2≠t.2:=fun q hq e1 e2=>by
   obtain ⟨p,hp,e3,e4⟩:=ha;have:inJ l t=true:=by
    rw [inJ_iff];rw [leB_iff] at e1 e3;exact ⟨p,hp,q,hq,by omega,by omega⟩
   rw [this] at hj;cases hj
  rw [still_b h ht hb]
  by_cases h1:t.1=0
  ·rw [items_out l (x:=t.1-1) (y:=t.2) (by simp [okB];omega),items_out l (x:=t.1-1) (y:=t.2-1) (by simp [okB];omega)];omega
  ·have hx1:okB (t.1-1) t.2=true:=by rw [okB_iff];omega
   rw [still_b h hx1 (fun r hr e=>hb r hr (by rw [leB_iff] at e ⊢;exact ⟨e.1,ht,by omega,e.2.2.2⟩))];omega
 ·have hb:∀ r∈l,leB r.1.2.1 r.1.2.2 t.1 t.2=true->r.1.2.1≠t.1:=fun r hr e1 e2=>ha ⟨r,hr,e1,e2⟩;rw [still_a h ht hb]
  by_cases h1:t.2=0
  ·rw [items_out l (x:=t.1) (y:=t.2-1) (by simp [okB];omega),items_out l (x:=t.1-1) (y:=t.2-1) (by simp [okB];omega)];omega
  ·have hx1:okB t.1 (t.2-1)=true:=by rw [okB_iff];omega
   rw [still_a h hx1 (fun r hr e=>hb r hr (by rw [leB_iff] at e ⊢;exact ⟨e.1,ht,e.2.2.1,by omega⟩))];omega
def chgT (kind:Int) (l:List Rw) (ts:LI):List Rw:=ts.flatMap fun t=>(difAt kind l t).map fun r=>((r.1,t),r.2)
def chgL (kind:Int) (l:List Rw):List Rw:=chgT kind l (jT l)
theorem at_same (m:List It) (t:Int×Int) (x y:Int):atL (m.map fun r=>((r.1,t),r.2)) x y=if leB t.1 t.2 x y then m else []:=by
 induction m with
 | nil=>simp [atL]
 | cons r m ih =>
  rw [List.map_cons,at_cons,ih]
  by_cases h:leB t.1 t.2 x y=true<;>simp [h]
theorem chgT_tot (kind:Int) (l:List Rw) (ts:LI) (x y:Int) (v:Int×Int):tot (atL (chgT kind l ts) x y) v=sumT (fun t=>if leB t.1 t.2 x y then tot (difAt kind l t) v else 0) ts:=by
 induction ts with
 | nil=>rfl
 | cons t ts ih =>
  show tot (atL (_++chgT kind l ts) x y) v=_
  rw [at_append,tot_append,ih,at_same];simp only [sumT]
  by_cases h:leB t.1 t.2 x y=true<;>simp [h,tot]
theorem sum_grid (kind:Int) {l:List Rw} (h:rokB l=true) {X Y:Int} (hX:okB X Y=true) (v:Int×Int) :
  sumT (fun t=>if leB t.1 t.2 X Y then tot (difAt kind l t) v else 0) (jT l)=tot (sumK kind (itemsL l X Y)) v:=by
 have h1:=tele (E:=fun x y=>tot (sumK kind (itemsL l x y)) v) (fun x y e=>by show tot (sumK kind (itemsL l x y)) v=0;rw [items_out l e,sumK_nil];rfl) hX;rw [<- h1];unfold jT;rw [sumT_filter];refine sumT_congr fun t ht=>?_;have hk:=grid_mem.1 ht;cases hj:inJ l t
 ·have:=dif_zero kind h hk hj v;rw [dif_tot] at this;rw [this];simp
 ·simp only [if_true];rw [dif_tot]
theorem lack_tot (kind:Int) {l:List Rw} (h:rokB l=true) {i:Nat} {t:Int×Int} (ht:(jT l)[i]?=some t) (v:Int×Int) :
  tot (sumK kind (itemsL l t.1 t.2)) v-tot (atL (chgT kind l ((jT l).take i)) t.1 t.2) v=tot (difAt kind l t) v:=by
 obtain ⟨hi,e⟩:=List.getElem?_eq_some_iff.1 ht;have hk:=(jtimes_mem.1 (List.mem_of_getElem? ht)).1;have hs:(jT l).take i++t::(jT l).drop (i+1)=jT l:=by
  rw [<- e,<-List.drop_eq_getElem_cons hi,List.take_append_drop]
 have h1:=sum_grid kind h hk v;rw [<- hs,sumT_append] at h1;simp only [sumT] at h1;have h2:sumT (fun s=>if leB s.1 s.2 t.1 t.2 then tot (difAt kind l s) v else 0) ((jT l).drop (i+1))=0:=sumT_zero fun s hs'=>by
  have hp:=jtimes_srt l;rw [<- hs,List.pairwise_append] at hp;have h3:=(List.pairwise_cons.1 hp.2.1).1 s hs';have:leB s.1 s.2 t.1 t.2=false:=by
   rw [Bool.eq_false_iff];intro e2;rw [leB_iff] at e2;simp only [ltT,decide_eq_true_eq] at h3;omega
  rw [this];simp
 rw [h2,leB_self,hk] at h1;simp only [if_true] at h1;rw [chgT_tot];omega
theorem lack_sum (kind:Int) {l:List Rw} (h:rokB l=true) {i:Nat} {t:Int×Int} (ht:(jT l)[i]?=some t) {L:List It} (hL:∀ v,tot L v=tot (sumK kind (itemsL l t.1 t.2)) v-tot (atL (chgT kind l ((jT l).take i)) t.1 t.2) v):sumL ltT L=difAt kind l t:=by
 have h1:difAt kind l t=sumL ltT (difAt kind l t):=(sumL_self ltT_ord (sumL_srt ltT_ord _) (sumL_nz ltT _)).symm;rw [h1];exact sumL_congr ltT_ord fun v=>by rw [hL,lack_tot kind h ht]
def rowsK (l:List Rw) (k:Int):List Rw:=l.filter fun r=>decide (r.1.1.1=k)
def fsumR (kind:Int) (a:List Rw):List Rw:=chgL kind (rowsK a 0)++chgL kind (rowsK a 1)++chgL kind (rowsK a 2)++chgL kind (rowsK a 3)
def ftimesL (a:List Rw) (key:Int):LI:=if rokB a then jT (rowsK a key) else []
theorem sumK_tot1 (kind:Int) {s:List It} (h:sokB s=true) (v:Int×Int):(tot (sumK kind s) v=1/\∃ r∈sumK kind s,r.1=v)\/tot (sumK kind s) v=0:=by
 by_cases hv:∃ r∈sumK kind s,r.1=v
 ·obtain ⟨r,hr,e⟩:=hv
  left
  refine ⟨?_,r,hr,e⟩;have:=srt_tot ltT_ord (sok_srt (sumK_sok kind h)) hr;rw [<- e,this,sumK_ones h hr]
 ·exact .inr (tot_of_not fun r hr e=>hv ⟨r,hr,e⟩)
theorem chg_key {kind:Int} {l:List Rw} {ts:LI} (ht:∀ t∈ts,okB t.1 t.2=true) {r:Rw} (hr:r∈chgT kind l ts):itK r.1.1/\okB r.1.2.1 r.1.2.2=true/\r.1.2∈ts:=by
 unfold chgT at hr;obtain ⟨t,htm,hr⟩:=List.mem_flatMap.1 hr;obtain ⟨q,hq,rfl⟩:=List.mem_map.1 hr;refine ⟨?_,ht t htm,htm⟩;obtain ⟨p,hp,e⟩:=sumL_key hq;have hk:∀ x y,∀ p∈sumK kind (itemsL l x y),itK p.1:=fun x y p hp=>sok_k (sumK_sok kind (items_sokF l x y)) p hp;have:itK p.1:=by
  simp only [List.mem_append] at hp
  rcases hp with ((hp|hp)|hp)|hp
  ·exact hk _ _ p hp
  ·obtain ⟨p',hp',rfl⟩:=List.mem_map.1 hp;exact hk _ _ p' hp'
  ·obtain ⟨p',hp',rfl⟩:=List.mem_map.1 hp;exact hk _ _ p' hp'
  ·exact hk _ _ p hp
 rw [e] at this;exact this
theorem jt_ok (l:List Rw):∀ t∈jT l,okB t.1 t.2=true:=fun _ h=>(jtimes_mem.1 h).1
theorem chg_one {kind:Int} {l:List Rw} {k:Int} (h0:0<=k) (h3:k<=3) (hk:∀ r∈l,r.1.1.1=k) {r:Rw} (hr:r∈chgL kind l):r.1.1.1=k:=by
 unfold chgL chgT at hr;obtain ⟨t,htm,hr⟩:=List.mem_flatMap.1 hr;obtain ⟨q,hq,rfl⟩:=List.mem_map.1 hr;obtain ⟨p,hp,e⟩:=sumL_key hq;have hki:∀ x y,∀ p∈itemsL l x y,p.1.1=k:=fun x y p hp=>by
  unfold itemsL at hp;split at hp
  ·obtain ⟨q,hq,e⟩:=sumL_key hp;unfold atL at hq;obtain ⟨q',hq',rfl⟩:=List.mem_map.1 hq;rw [<- e];exact hk q' (List.mem_filter.1 hq').1
  ·simp at hp
 have hs:∀ x y,∀ p∈sumK kind (itemsL l x y),p.1.1=k:=fun x y p hp=>by
  rw [sumK_one kind (items_sokF l x y) (hki x y) h0 h3] at hp;exact (partK_mem hp).1
 have:p.1.1=k:=by
  simp only [List.mem_append] at hp
  rcases hp with ((hp|hp)|hp)|hp
  ·exact hs _ _ p hp
  ·obtain ⟨p',hp',rfl⟩:=List.mem_map.1 hp;exact hs _ _ p' hp'
  ·obtain ⟨p',hp',rfl⟩:=List.mem_map.1 hp;exact hs _ _ p' hp'
  ·exact hs _ _ p hp
 rw [e] at this;exact this
theorem flat_le {A B:Type} {f:A->List B} {c:Nat} (h:∀ x,(f x).length<=c) (l:List A):(l.flatMap f).length<=c*l.length:=by
 induction l with
 | nil=>simp
 | cons x l ih =>
  have:=h x;rw [List.flatMap_cons,List.length_append,List.length_cons,Nat.mul_add];omega
end Go.Proofs.YtbdpcngcbnoioaaGreatDoor
