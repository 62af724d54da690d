import Derived.Test.YtbdpcngcbnoioaaGreatDoorGl1
import Derived.Test.YtbdpcngcbnoioaaGreatDoorGpa
namespace Go.Proofs.YtbdpcngcbnoioaaGreatDoor
def opR (k n:Int) (x y:List Rw):List Rw :=
 if k=2 then sumL ltS (eachR n x) else if k=3 then sumL ltS (x++y) else if k=4 then lessL x else if k=5 then sumL ltS (pairR x y) else sumL ltS (fsumR n x)
def fitO (l:List Rw):Option (List Rw):=if bokB l then some l else none
def planR (a b:List Rw):PT->Option (List Rw)
 | .n0 _ n=>fitO (if n=0 then a else b)
 | .n1 k n x=>(planR a b x).bind fun r=>fitO (opR k n r [])
 | .n2 k n x y=>(planR a b x).bind fun r=>(planR a b y).bind fun s=>fitO (opR k n r s)
theorem fitO_some {l r:List Rw}:fitO l=some r↔bokB l=true/\l=r:=by
 unfold fitO;split<;>simp_all
theorem fitO_yes {l:List Rw} (h:bokB l=true):fitO l=some l:=by simp [fitO,h]
theorem fitO_no {l:List Rw} (h:bokB l=false):fitO l=none:=by simp [fitO,h]
theorem planR_bok {a b r:List Rw} {t:PT} (h:planR a b t=some r):bokB r=true:=by
 cases t with
 | n0 k n=>obtain ⟨h1,rfl⟩:=fitO_some.1 h;exact h1
 | n1 k n x =>
  obtain ⟨s,_,h2⟩:=Option.bind_eq_some_iff.1 h;obtain ⟨h1,rfl⟩:=fitO_some.1 h2;exact h1
 | n2 k n x y =>
  obtain ⟨s,_,h2⟩:=Option.bind_eq_some_iff.1 h;obtain ⟨u,_,h3⟩:=Option.bind_eq_some_iff.1 h2;obtain ⟨h1,rfl⟩:=fitO_some.1 h3;exact h1
theorem lessL_of {l:List Rw} (h:bokB l=true):lessL l=negL l:=by
 have hr:=bRz h;have e:sumL ltS (negL l)=negL l:=by
  refine sumL_self ltS_ord ?_ ?_
  ·unfold negL Srt;rw [List.pairwise_map];exact bok_srt h
  ·intro r hr;obtain ⟨q,hq,rfl⟩:=List.mem_map.1 hr;have:=bok_nz h q hq;simp only;omega
 have e2:rokB (negL l)=true:=by
  refine rok_mk (by unfold negL;rw [List.length_map];exact rLz hr) fun r hr'=>?_;obtain ⟨q,hq,rfl⟩:=List.mem_map.1 hr';have:=rok_at hr hq;simp only [rwOkB,Bool.and_eq_true] at this ⊢;refine ⟨this.1,?_⟩;have h2:=this.2;simp only [inB,decide_eq_true_eq] at h2 ⊢;omega
 simp only [lessL,hr,if_true];rw [sumF_ok (by rw [e];exact e2),e]
theorem lessL_bok (l:List Rw):bokB (lessL l)=true:=by
 unfold lessL;split
 ·exact sumF_bok _
 ·exact bok_nil
theorem here_parts {t:PT} (h:hereB t=true):(1<=t.k/\t.k<=6)/\(t.len:Int)=kidN t.k/\numLo t.k<=t.n/\t.n<=numHi t.k:=by
 simp only [hereB,inB,Bool.and_eq_true,decide_eq_true_eq] at h;exact ⟨h.1.1,h.1.2,h.2⟩
def outR (a b:List Rw) (t:PT) (K:List (List Rw)):List Rw:=if t.k=1 then (if t.n=0 then a else b) else opR t.k t.n (K.getD 0 []) (K.getD 1 [])
theorem len0_k {k n:Int} (h:hereB (.n0 k n)=true):k=1:=by
 obtain ⟨p1,p2,-⟩:=here_parts h;simp only [PT.k,PT.len] at p1 p2;have hc:k=1\/k=2\/k=3\/k=4\/k=5\/k=6:=by omega
 rcases hc with rfl|rfl|rfl|rfl|rfl|rfl
 ·rfl
 all_goals exact absurd p2 (by decide)
theorem lenS_k {t:PT} (h:hereB t=true) (hl:t.len≠0):t.k≠1:=fun e=>by
 obtain ⟨-,p2,-⟩:=here_parts h;rw [e] at p2;have:kidN 1=0:=rfl;omega
theorem planR_of {a b:List Rw} {t:PT} {K:List (List Rw)} (hh:hereB t=true) (hl:K.length=t.len) (hp:∀ j l,K[j]?=some l->planR a b (t.kid j)=some l):planR a b t=fitO (outR a b t K):=by
 cases t with
 | n0 k n =>
  have:=len0_k hh;subst this
  rfl
 | n1 k n x =>
  have h1:=lenS_k hh (by simp [PT.len]);simp only [PT.k] at h1;obtain ⟨l,rfl⟩:∃ l,K=[l]:=by
   match K,hl with
   | [l],_=>exact ⟨l,rfl⟩
  have:=hp 0 l rfl;simp only [PT.kid] at this;simp [planR,outR,PT.k,PT.n,h1,this]
 | n2 k n x y =>
  have h1:=lenS_k hh (by simp [PT.len]);simp only [PT.k] at h1;obtain ⟨l,m,rfl⟩:∃ l m,K=[l,m]:=by
   match K,hl with
   | [l,m],_=>exact ⟨l,m,rfl⟩
  have e1:=hp 0 l rfl;have e2:=hp 1 m rfl;simp only [PT.kid] at e1 e2;simp [planR,outR,PT.k,PT.n,h1,e1,e2]
theorem planR_none {a b:List Rw} {t:PT} {i:Nat} (hi:i<t.len) (h:planR a b (t.kid i)=none):planR a b t=none:=by
 cases t with
 | n0 k n=>simp [PT.len] at hi
 | n1 k n x=>simp only [PT.kid] at h;simp [planR,h]
 | n2 k n x y =>
  cases i with
  | zero=>simp only [PT.kid] at h;simp [planR,h]
  | succ i=>simp only [PT.kid] at h;simp [planR,h]
theorem planR_len {a b r:List Rw} {t:PT} (h:planR a b t=some r):r.length<=400:=rLz (bRz (planR_bok h))
theorem bokR_len {l:List Rw} (h:bokB l=true):l.length<=400:=rLz (bRz h)
def flowR (t:PT):List (List Rw)->Option (List Rw)
 | [a,b]=>if pokB t 4&&bokB a&&bokB b then planR a b t else none
 | _=>none
theorem flowR_two {t:PT} {a b:List Rw} (h:pokB t 4=true) (ha:bokB a=true) (hb:bokB b=true):flowR t [a,b]=planR a b t:=by simp [flowR,h,ha,hb]
theorem flowR_no1 {t:PT} {K:List (List Rw)} (h:pokB t 4=false):flowR t K=none:=by
 unfold flowR;split
 ·simp [h]
 ·rfl
theorem flowR_no2 {t:PT} {K:List (List Rw)} (h:K.length≠2):flowR t K=none:=by
 unfold flowR;split
 ·simp at h
 ·rfl
theorem flowR_no3 {t:PT} {K:List (List Rw)} (h:K.all bokB=false):flowR t K=none:=by
 unfold flowR;split
 ·rename_i a b;simp only [List.all_cons,List.all_nil,Bool.and_true] at h;rw [Bool.and_assoc,h];simp
 ·rfl
theorem flowR_some {t:PT} {K:List (List Rw)} {r:List Rw} (h:flowR t K=some r):∃ a b,K=[a,b]/\pokB t 4=true/\bokB a=true/\bokB b=true/\planR a b t=some r:=by
 unfold flowR at h;split at h
 ·rename_i a b
  split at h
  ·rename_i hc;simp only [Bool.and_eq_true] at hc;exact ⟨a,b,rfl,hc.1.1,hc.1.2,hc.2,h⟩
  ·cases h
 ·cases h
theorem two_of {α:Type} {K:List α} (h:K.length=2):∃ a b,K=[a,b]:=by
 match K,h with
 | [a,b],_=>exact ⟨a,b,rfl⟩
def FineR (_ _:List Rw) (_:PT):Prop:=True
theorem fineR_kid {a b:List Rw} {t:PT} {i:Nat} (_:FineR a b t) (_:i<t.len):FineR a b (t.kid i):=trivial
theorem pairR_far {x y:List Rw} (hx:rokB x=true) (hy:rokB y=true):(pairR x y).length<=160000/\absum (pairR x y)<=2305843009213693952:=by
 have h1:=pairR_len x y;have h2:x.length*y.length<=400*400:=Nat.mul_le_mul (rLz hx) (rLz hy);have h3:=pairR_small (rok_absF hx) (rok_absF hy);constructor
 ·omega
 ·omega
end Go.Proofs.YtbdpcngcbnoioaaGreatDoor
