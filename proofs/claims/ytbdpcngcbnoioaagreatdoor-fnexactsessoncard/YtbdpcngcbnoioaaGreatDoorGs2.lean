import Derived.DeepKeys5
import Derived.WideKeyEntry
import Derived.Maps.RangeWalk
import Derived.Test.YtbdpcngcbnoioaaGreatDoorGp1
import Derived.Test.YtbdpcngcbnoioaaGreatDoorSrt
import Derived.Test.YtbdpcngcbnoioaaGreatDoorGb3
import Derived.Test.YtbdpcngcbnoioaaGreatDoorGrw
import Derived.Deep.AppendSrc
import Derived.Test.YtbdpcngcbnoioaaGreatDoorGa8
set_option maxRecDepth 100000
set_option maxHeartbeats 4000000
namespace Go.Proofs.YtbdpcngcbnoioaaGreatDoor
open Go.RowKit
section
variable {κ:Type} [DecidableEq κ]
theorem tot_nodup {M:List (κ×Int)} (hn:(M.map Prod.fst).Nodup) {r:κ×Int} (hr:r∈M):tot M r.1=r.2:=by
 induction M with
 | nil=>simp at hr
 | cons x M ih =>
  simp only [List.map_cons,List.nodup_cons] at hn;simp only [tot]
  rcases List.mem_cons.1 hr with rfl|hr
  ·rw [if_pos rfl,tot_of_not (fun q hq e=>hn.1 (List.mem_map.2 ⟨q,hq,e⟩))];omega
  ·rw [if_neg (fun e=>hn.1 (List.mem_map.2 ⟨r,hr,e.symm⟩)),ih hn.2 hr];omega
theorem tot_set {M:List (κ×Int)} {j:Nat} {r:κ×Int} (hj:M[j]?=some r) (n:Int) (s:κ):tot (M.set j (r.1,n)) s=tot M s+(if r.1=s then n-r.2 else 0):=by
 induction M generalizing j with
 | nil=>simp at hj
 | cons x M ih =>
  cases j with
  | zero =>
   simp at hj;subst hj;simp only [List.set_cons_zero,tot];split<;>omega
  | succ j =>
   simp only [List.set_cons_succ,tot];rw [ih (by simpa using hj)];omega
end
structure KeyEnc {κ:Type} (k:TypeId) (ek:κ->Value) (ok:κ->Prop):Prop where
 law:WideMaps.KeyLaw Tryz.prog k
 key:∀ s,ok s->∃ l,keyOf Tryz.prog k (ek s)=some l
 inj:∀ s s',ek s=ek s'->s=s'
def MapIs {κ:Type} (ek:κ->Value) (ok:κ->Prop) (w:World) (b:Nat) (M:List (κ×Int)):Prop :=
 ∃ es clock,w.heap[b]?=some (.map es clock)/\MapKept.Stamped es clock/\es.toList.map (fun x=>(x.key,x.val))=M.map (fun p=>(ek p.1,Value.int .i64 p.2))/\∀ p∈M,ok p.1
section
variable {κ:Type} {ek:κ->Value} {ok:κ->Prop} {k e t:TypeId} {w:World} {b:Nat} {M:List (κ×Int)}
theorem MapIs.lt (h:MapIs ek ok w b M):b<w.heap.size:=by
 obtain ⟨es,clock,hb,_⟩:=h;exact lt_of_block hb
theorem MapIs.move {w1:World} (h:MapIs ek ok w b M) (hb:w1.heap[b]?=w.heap[b]?):MapIs ek ok w1 b M:=by
 obtain ⟨es,clock,h1,r⟩:=h;exact ⟨es,clock,by rw [hb];exact h1,r⟩
theorem MapIs.keep {w1:World} (h:MapIs ek ok w b M) (hb:Below w.heap.size w w1):MapIs ek ok w1 b M:=h.move (hb.block b h.lt)
theorem MapIs.new (w:World) (hB:b=w.heap.size):MapIs ek ok (w.alloc (.map #[] 0)) b []:=by
 subst hB;exact ⟨#[],0,heap_alloc_new w _,MapKept.stamped_empty 0,by simp,by simp⟩
theorem mapIs_at {es:Array MapEntry} (hm:es.toList.map (fun x=>(x.key,x.val))=M.map (fun p=>(ek p.1,Value.int .i64 p.2))) {j:Nat} {x:MapEntry} (hx:es.toList[j]?=some x):∃ p,M[j]?=some p/\x.key=ek p.1/\x.val= .int .i64 p.2:=by
 have h:=congrArg (fun l=>l[j]?) hm;simp only [List.getElem?_map,hx,Option.map_some] at h;cases hp:M[j]? with
 | none=>rw [hp] at h;cases h
 | some p =>
  rw [hp] at h;simp only [Option.map_some,Option.some.injEq,Prod.mk.injEq] at h;exact ⟨p,rfl,h.1,h.2⟩
theorem mapIs_keys (K:KeyEnc k ek ok) {es:Array MapEntry} (hm:es.toList.map (fun x=>(x.key,x.val))=M.map (fun p=>(ek p.1,Value.int .i64 p.2))) (ho:∀ p∈M,ok p.1):∀ x∈es.toList,∃ l,keyOf Tryz.prog k x.key=some l:=by
 intro x hx;obtain ⟨j,hj⟩:=List.mem_iff_getElem?.1 hx;obtain ⟨p,hp,h1,_⟩:=mapIs_at hm hj;rw [h1];exact K.key _ (ho p (List.mem_of_getElem? hp))
theorem mapIs_none {es:Array MapEntry} (hm:es.toList.map (fun x=>(x.key,x.val))=M.map (fun p=>(ek p.1,Value.int .i64 p.2))) {s:κ} (h:∀ x∈es.toList,x.key≠ek s):∀ r∈M,r.1≠s:=by
 intro r hr e;obtain ⟨j,hj⟩:=List.mem_iff_getElem?.1 hr;have h':=congrArg (fun l=>l[j]?) hm;simp only [List.getElem?_map,hj,Option.map_some] at h';cases hx:es.toList[j]? with
 | none=>rw [hx] at h';cases h'
 | some x =>
  rw [hx] at h';simp only [Option.map_some,Option.some.injEq,Prod.mk.injEq] at h';exact h x (List.mem_of_getElem? hx) (by rw [h'.1,e])
theorem mapIs_nodup {es:Array MapEntry} {clock:Nat} (hs:MapKept.Stamped es clock) (hm:es.toList.map (fun x=>(x.key,x.val))=M.map (fun p=>(ek p.1,Value.int .i64 p.2))):(M.map Prod.fst).Nodup:=by
 have h1:es.toList.map (·.key)=M.map (fun p=>ek p.1):=by
  have:=congrArg (List.map Prod.fst) hm
  simpa [List.map_map,Function.comp_def] using this
 have h2:=hs.2.2;rw [h1] at h2;have:(M.map fun p=>ek p.1)=(M.map Prod.fst).map ek:=by simp [List.map_map,Function.comp_def]
 rw [this] at h2;exact (List.pairwise_map.1 h2).imp fun h e=>h (by rw [e])
theorem MapIs.look [DecidableEq κ] (h:MapIs ek ok w b M) (K:KeyEnc k ek ok) (ht:Tryz.prog.underlying t=some (.map k e)) (hz:∀ w,(zeroValue e).run Tryz.prog w= .ok (.int .i64 0) w) {s:κ} (hok:ok s) :
  (Instr.lookup t (.map (some b)) (ek s) false).run Tryz.prog w= .ok (.int .i64 (tot M s)) w:=by
 obtain ⟨es,clock,hb,hs,hm,ho⟩:=h;obtain ⟨l,hl⟩:=K.key s hok
 rcases K.law.find w hl es.toList (mapIs_keys K hm ho) with ⟨h1,h2⟩|⟨j,x,h1,h2,h3⟩
 ·rw [tot_of_not (mapIs_none hm h2)];simp [Instr.lookup,run_underlying ht,MapKept.run_getObj_map hb,K.law.check w _ hl,h1,hz,Result.andThen]
 ·obtain ⟨p,hp,e1,e2⟩:=mapIs_at hm h2;have:p.1=s:=K.inj _ _ (by rw [<- e1,h3]);subst this;rw [tot_nodup (mapIs_nodup hs hm) (List.mem_of_getElem? hp),<-e2];simp [Instr.lookup,run_underlying ht,MapKept.run_getObj_map hb,K.law.check w _ hl,h1,Result.andThen]
open Go.ChangeMaps (setBlock) in
theorem MapIs.enter [DecidableEq κ] (h:MapIs ek ok w b M) (K:KeyEnc k ek ok) (ht:Tryz.prog.underlying t=some (.map k e)) (hz:∀ w,(zeroValue e).run Tryz.prog w= .ok (.int .i64 0) w) {s:κ} (hok:ok s) (n:Int) :
  ∃ (st:Nat) (o1 o2:Obj) (M':List (κ×Int)),(Instr.mapEntry t (.map (some b)) (ek s)).run Tryz.prog w= .ok (.tuple #[.int .i64 (tot M s),goInt st]) (setBlock w b o1) /\
   (Instr.lookup t (.map (some b)) (ek s) false).run Tryz.prog (setBlock w b o1)= .ok (.int .i64 (tot M s)) (setBlock w b o1) /\
   (Instr.entryStore t (.map (some b)) (goInt st) (.int .i64 n)).run Tryz.prog (setBlock w b o1)= .ok () (setBlock w b o2) /\
   MapIs ek ok (setBlock w b o2) b M'/\(∀ s',tot M' s'=if s=s' then n else tot M s')/\M'.length<=M.length+1:=by
 have hM:=h;obtain ⟨es,clock,hb,hs,hm,ho⟩:=h;obtain ⟨l,hl⟩:=K.key s hok;have hlt:b<w.heap.size:=lt_of_block hb;have same:∀ o,(setBlock w b o).heap[b]?=some o:=fun o=>by simp [setBlock,hlt]
 have twice:∀ o o',setBlock (setBlock w b o) b o'=setBlock w b o':=fun o o'=>by simp [setBlock]
 have hlen:es.size=M.length:=by have:=congrArg List.length hm;simpa using this
 rcases K.law.find w hl es.toList (mapIs_keys K hm ho) with ⟨h1,h2⟩|⟨j,x,h1,h2,h3⟩
 ·have h0:=mapIs_none hm h2;have t0:tot M s=0:=tot_of_not h0;have m1:MapIs ek ok (setBlock w b (.map (es.push ⟨ek s, .int .i64 0,clock⟩) (clock+1))) b (M++[(s,0)]) :=
   ⟨_,_,same _,MapKept.stamped_push hs h2,by simp [hm],fun p hp=>by
    rcases List.mem_append.1 hp with hp|hp
    ·exact ho p hp
    ·simp at hp;subst hp;exact hok⟩
  refine ⟨clock, .map (es.push ⟨ek s, .int .i64 0,clock⟩) (clock+1), .map (es.push ⟨ek s, .int .i64 n,clock⟩) (clock+1),M++[(s,n)],?_,?_,?_,?_,?_,by simp⟩
  ·rw [t0];simp [Instr.mapEntry,run_underlying ht,MapKept.run_getObj_map hb,K.law.check w false hl,h1,hz,MapKept.run_setObj_map _ hb,Result.andThen,setBlock]
  ·have:=m1.look K ht hz hok;rw [tot_snoc] at this
   simpa using this
  ·have hidx:(es.push ⟨ek s, .int .i64 0,clock⟩).findIdx? (fun e=>((e.born:Nat):Int)==((clock:Nat):Int))=some es.size:=by
    rw [Go.WideElems.findIdx_arr];refine Go.WideElems.findIdx_born (l:=(es.push ⟨ek s, .int .i64 0,clock⟩).toList) (j:=es.size) (e0:=⟨ek s, .int .i64 0,clock⟩) ?_ (by simp);simp only [Array.toList_push,List.map_append,List.map_cons,List.map_nil];refine List.nodup_append.2 ⟨hs.2.1,by simp,fun a ha c hc e1=>?_⟩;simp only [List.mem_singleton] at hc;obtain ⟨x,hx,rfl⟩:=List.mem_map.1 ha;have:=hs.1 x hx;omega
   have hmod:(es.push ⟨ek s, .int .i64 0,clock⟩).modify es.size (fun e=>{ e with val:= .int .i64 n })=es.push ⟨ek s, .int .i64 n,clock⟩:=by
    apply Array.ext'
    rw [Array.toList_modify,Array.toList_push,Array.toList_push,<-Array.length_toList,Go.WideElems.modify_last]
   have hw1:=same (.map (es.push ⟨ek s, .int .i64 0,clock⟩) (clock+1));have htw:=twice (.map (es.push ⟨ek s, .int .i64 0,clock⟩) (clock+1)) (.map (es.push ⟨ek s, .int .i64 n,clock⟩) (clock+1));generalize setBlock w b (.map (es.push ⟨ek s, .int .i64 0,clock⟩) (clock+1))=w1 at hw1 htw ⊢;rw [<- htw];simp [Instr.entryStore,MapKept.run_getObj_map hw1,asInt,asIntOf,goInt,hidx,hmod,MapKept.run_setObj_map _ hw1,Result.andThen,setBlock]
  ·exact ⟨_,_,same _,MapKept.stamped_push hs h2,by simp [hm],fun p hp=>by
    rcases List.mem_append.1 hp with hp|hp
    ·exact ho p hp
    ·simp at hp;subst hp;exact hok⟩
  ·intro s';rw [tot_snoc]
   by_cases e1:s=s'
   ·subst e1;simp [t0]
   ·simp [e1]
 ·obtain ⟨p,hp,e1,e2⟩:=mapIs_at hm h2;have:p.1=s:=K.inj _ _ (by rw [<- e1,h3]);subst this;have hj:es[j]?=some x:=by simpa using h2
  have tp:=tot_nodup (mapIs_nodup hs hm) (List.mem_of_getElem? hp);have hjl:j<es.toList.length:=(List.getElem?_eq_some_iff.1 h2).1;have hsame:es.modify j (fun e=>{ e with key:=ek p.1 })=es:=by
   apply Array.ext'
   rw [Array.toList_modify,Go.ChangeMaps.modify_eq_set _ _ _ _ h2];have:({ x with key:=ek p.1 }:MapEntry)=x:=by rw [<- h3]
   rw [this];exact Go.WideElems.set_self _ _ _ h2
  have hself:setBlock w b (.map es clock)=w:=by
   have hx:w.heap.setIfInBounds b (.map es clock)=w.heap:=by
    apply Array.ext_getElem?
    intro i;rw [Array.getElem?_setIfInBounds]
    by_cases hi:b=i
    ·subst hi;rw [if_pos rfl,if_pos hlt,hb]
    ·rw [if_neg hi]
   simp only [setBlock,hx]
  have hlist:(es.modify j (fun e'=>{ e' with val:= .int .i64 n })).toList=es.toList.set j { x with val:= .int .i64 n }:=by
   rw [Array.toList_modify,Go.ChangeMaps.modify_eq_set _ _ _ _ h2]
  refine ⟨x.born, .map es clock, .map (es.modify j (fun e'=>{ e' with val:= .int .i64 n })) clock,M.set j (p.1,n),?_,?_,?_,?_,?_,by simp⟩
  ·rw [tp,<-e2];simp [Instr.mapEntry,run_underlying ht,MapKept.run_getObj_map hb,K.law.check w false hl,h1,hj,h3,K.law.stays w hl,hsame,MapKept.run_setObj_map _ hb,Result.andThen,setBlock]
  ·rw [hself];exact hM.look K ht hz hok
  ·rw [hself];have hidx:es.findIdx? (fun e=>((e.born:Nat):Int)==((x.born:Nat):Int))=some j:=by
    rw [Go.WideElems.findIdx_arr];exact Go.WideElems.findIdx_born hs.2.1 h2
   simp [Instr.entryStore,MapKept.run_getObj_map hb,asInt,asIntOf,goInt,hidx,MapKept.run_setObj_map _ hb,Result.andThen,setBlock]
  ·refine ⟨_,_,same _,MapKept.stamped_modify hs _ _ (fun _ _=>rfl) (fun _ _ _=>rfl),?_,fun q hq=>?_⟩
   ·rw [hlist,List.map_set,List.map_set,hm,h3]
   ·rcases List.mem_or_eq_of_mem_set hq with hq|rfl
    ·exact ho q hq
    ·exact hok
  ·intro s';rw [tot_set hp]
   by_cases e3:p.1=s'
   ·subst e3;rw [if_pos rfl,if_pos rfl,tp];omega
   ·rw [if_neg e3,if_neg e3];omega
end
open Go.ChangeMaps (setBlock)
theorem strike_idx {L:List MapEntry} (hn:(L.map (·.born)).Nodup) {j:Nat} {e:MapEntry} (h:L[j]?=some e):L.filter (fun x=>!(x.born==e.born))=L.eraseIdx j:=by
 induction L generalizing j with
 | nil=>simp at h
 | cons a l ih =>
  simp only [List.map_cons,List.nodup_cons] at hn;cases j with
  | zero =>
   simp at h;subst h;rw [List.filter_cons];simp only [beq_self_eq_true,Bool.not_true,Bool.false_eq_true,if_false,List.eraseIdx_cons_zero];refine List.filter_eq_self.2 fun x hx=>?_;have:x.born≠a.born:=fun e1=>hn.1 (List.mem_map.2 ⟨x,hx,e1⟩)
   simpa using this
  | succ j =>
   have h':l[j]?=some e:=by simpa using h
   have hne:a.born≠e.born:=fun e1=>hn.1 (List.mem_map.2 ⟨e,List.mem_of_getElem? h',e1.symm⟩);rw [List.filter_cons,if_pos (by simpa using hne),ih hn.2 h',List.eraseIdx_cons_succ]
theorem erase_perm {α:Type} {l:List α} {j:Nat} {x:α} (h:l[j]?=some x):l.Perm (x::l.eraseIdx j):=by
 induction l generalizing j with
 | nil=>simp at h
 | cons a l ih =>
  cases j with
  | zero=>simp at h;subst h;simp
  | succ j =>
   rw [List.eraseIdx_cons_succ];exact ((ih (by simpa using h)).cons a).trans (List.Perm.swap x a _)
theorem left_strike (es:Array MapEntry) (seen:Array Nat) (b:Nat):(leftOf es (seen.push b)).toList=(leftOf es seen).toList.filter (fun x=>!(x.born==b)):=by
 unfold leftOf;rw [Array.toList_filter,Array.toList_filter,List.filter_filter]
 congr 1
 funext x
 rw [Array.contains_push];cases seen.contains x.born<;>cases (x.born==b)<;>rfl
def Ranging {κ:Type} (ek:κ->Value) (ok:κ->Prop) (w:World) (b r:Nat) (M rest:List (κ×Int)):Prop :=
 ∃ es clock seen,w.heap[b]?=some (.map es clock)/\w.heap[r]?=some (.mapIter (some b) clock seen clock)/\MapKept.Stamped es clock/\es.toList.map (fun x=>(x.key,x.val))=M.map (fun p=>(ek p.1,Value.int .i64 p.2)) /\
  (∀ p∈M,ok p.1)/\(leftOf es seen).toList.map (fun x=>(x.key,x.val))=rest.map (fun p=>(ek p.1,Value.int .i64 p.2))/\b≠r
section
variable {κ:Type} {ek:κ->Value} {ok:κ->Prop} {w:World} {b r:Nat} {M rest:List (κ×Int)}
theorem Ranging.move {w1:World} (h:Ranging ek ok w b r M rest) (hb:w1.heap[b]?=w.heap[b]?) (hr:w1.heap[r]?=w.heap[r]?):Ranging ek ok w1 b r M rest:=by
 obtain ⟨es,clock,seen,h1,h2,h3⟩:=h;exact ⟨es,clock,seen,by rw [hb];exact h1,by rw [hr];exact h2,h3⟩
theorem Ranging.lt (h:Ranging ek ok w b r M rest):b<w.heap.size/\r<w.heap.size:=by
 obtain ⟨es,clock,seen,h1,h2,_⟩:=h;exact ⟨lt_of_block h1,lt_of_block h2⟩
theorem Ranging.keep {w1:World} (h:Ranging ek ok w b r M rest) (hb:Below w.heap.size w w1):Ranging ek ok w1 b r M rest:=h.move (hb.block b h.lt.1) (hb.block r h.lt.2)
theorem Ranging.grew {w1:World} {row:Option Nat} (h:Ranging ek ok w b r M rest) (hg:w.grownBy w1 row) (hr:∀ k,row=some k->b≠k/\r≠k):Ranging ek ok w1 b r M rest :=
 h.move (hg.block b h.lt.1 (fun e=>(hr _ e.symm).1 rfl)) (hg.block r h.lt.2 (fun e=>(hr _ e.symm).2 rfl))
theorem Ranging.start {t k e:TypeId} (h:MapIs ek ok w b M) (ht:Tryz.prog.underlying t=some (.map k e)):∃ w',(Instr.range t (.map (some b))).run Tryz.prog w= .ok (.pointer (some ⟨w.heap.size,0,none⟩)) w'/\Ranging ek ok w' b w.heap.size M M/\Below w.heap.size w w'/\w'.heap.size=w.heap.size+1:=by
 have hlt:=h.lt;obtain ⟨es,clock,hb,hs,hm,ho⟩:=h;refine ⟨w.alloc (.mapIter (some b) clock #[] clock),?_,⟨es,clock,#[],?_,heap_alloc_new w _,hs,hm,ho,?_,by omega⟩,bAz (Below.refl _ _) _,by simp⟩
 ·simp [Instr.range,run_underlying ht,MapKept.run_getObj_map hb,Result.andThen,newObj,Sem.run]
 ·rw [Below.heap_alloc _ _ _ hlt];exact hb
 ·have:(leftOf es #[]).toList=es.toList:=by unfold leftOf;simp
  rw [this];exact hm
theorem Ranging.next (h:Ranging ek ok w b r M rest) (ty:TypeId) :
  (rest=[]/\(Instr.next (.pointer (some ⟨r,0,none⟩)) false ty).run Tryz.prog w= .ok (.tuple #[.bool false]) w) \/
  ∃ (p:κ×Int) (rest':List (κ×Int)) (w':World),rest.Perm (p::rest')/\(Instr.next (.pointer (some ⟨r,0,none⟩)) false ty).run Tryz.prog w= .ok (.tuple #[.bool true,ek p.1, .int .i64 p.2]) w'/\Ranging ek ok w' b r M rest' /\
   (Instr.entry (.pointer (some ⟨r,0,none⟩))).run Tryz.prog w'= .ok (.tuple #[ek p.1, .int .i64 p.2]) w'/\Bx r w w'/\w'.heap.size=w.heap.size/\rest'.length+1=rest.length:=by
 obtain ⟨es,clock,seen,h1,h2,hs,hm,ho,hl,hbr⟩:=h
 rcases run_next_at (P:=Tryz.prog) w ty r b clock clock seen es clock h2 h1 hs.1 (Nat.le_refl _) with ⟨h0,hrun⟩|⟨x,hx,w1,hw1,hrun⟩
 ·left
  refine ⟨?_,hrun⟩;have:(leftOf es seen).toList=[]:=List.eq_nil_of_length_eq_zero (by simpa using h0);rw [this] at hl;exact List.map_eq_nil_iff.1 hl.symm
 ·right
  obtain ⟨j,hj⟩:=List.mem_iff_getElem?.1 hx;obtain ⟨p,hp,e1,e2⟩:∃ p,rest[j]?=some p/\x.key=ek p.1/\x.val= .int .i64 p.2:=by
   have h':=congrArg (fun l=>l[j]?) hl;simp only [List.getElem?_map,hj,Option.map_some] at h';cases hp:rest[j]? with
   | none=>rw [hp] at h';cases h'
   | some p =>
    rw [hp] at h';simp only [Option.map_some,Option.some.injEq,Prod.mk.injEq] at h';exact ⟨p,rfl,h'.1,h'.2⟩
  have hxe:x∈es.toList:=by
   unfold leftOf at hx;rw [Array.toList_filter] at hx;exact (List.mem_filter.1 hx).1
  have hjl:=(List.getElem?_eq_some_iff.1 hp);obtain ⟨hjl1,_⟩:=hjl;have hnl:((leftOf es seen).toList.map (·.born)).Nodup:=by
   unfold leftOf;rw [Array.toList_filter];exact hs.2.1.sublist ((List.filter_sublist (l:=es.toList)).map _)
  rw [e1,e2] at hrun;have hw:Bx r w w1/\w1.heap=w.heap:=by
   rcases hw1 with rfl|rfl
   ·exact ⟨Bx.refl _ _,rfl⟩
   ·exact ⟨(Bx.refl _ _).drew,rfl⟩
  have hr1:r<w1.heap.size:=by rw [hw.2];exact lt_of_block h2
  have hB:Bx r w (setBlock w1 r (.mapIter (some b) clock (seen.push x.born) clock)):=by
   refine ⟨hw.1.os,hw.1.tape,hw.1.output,by simp [setBlock,hw.2],fun k hk hne=>?_⟩;simp only [setBlock,Array.getElem?_setIfInBounds];rw [if_neg (fun e=>hne e.symm),hw.2]
  have hat:(setBlock w1 r (.mapIter (some b) clock (seen.push x.born) clock)).heap[r]?=some (.mapIter (some b) clock (seen.push x.born) clock):=by simp [setBlock,hr1]
  have hmb:(setBlock w1 r (.mapIter (some b) clock (seen.push x.born) clock)).heap[b]?=some (.map es clock):=by rw [hB.block b (lt_of_block h1) hbr];exact h1
  refine ⟨p,rest.eraseIdx j,_,?_,hrun,⟨es,clock,seen.push x.born,hmb,hat,hs,hm,ho,?_,hbr⟩,?_,hB,by simp [setBlock,hw.2],?_⟩
  ·exact erase_perm hp
  ·rw [left_strike,strike_idx hnl hj,Go.ChangeMaps.map_eraseIdx,Go.ChangeMaps.map_eraseIdx,hl]
  ·have:=run_entry_at (P:=Tryz.prog) _ r b clock seen es clock x hat hmb hxe hs.2.1;rw [e1,e2] at this;exact this
  ·rw [List.length_eraseIdx_of_lt hjl1];omega
end
def fit63 (n:Int):Prop := -4611686018427387904<=n/\n<=4611686018427387904
theorem wf63 {n:Int} (h:fit63 n):(Lit.int .i64 n).wf=true:=by
 obtain ⟨h1,h2⟩:=h;have e1:IntKind.i64.min = -9223372036854775808:=by decide
 have e2:IntKind.i64.max=9223372036854775807:=by decide
 simp only [Lit.wf,e1,e2];simp;omega
abbrev spV (s:Sp):Value:= .agg #[.int .i64 s.1.1, .int .i64 s.1.2, .int .i64 s.2.1, .int .i64 s.2.2]
abbrev thV (s:Int×Int):Value:= .agg #[.int .i64 s.1, .int .i64 s.2]
def spOk (s:Sp):Prop:=fit63 s.1.1/\fit63 s.1.2/\fit63 s.2.1/\fit63 s.2.2
def thOk (s:Int×Int):Prop:=fit63 s.1/\fit63 s.2
theorem sizeT:∃ m,Tryz.prog.types.size=m+3:=⟨Tryz.prog.types.size-3,by kernel_rfl⟩
theorem lawS:WideMaps.KeyLaw Tryz.prog 233:=deep_law_laid pfLaid (m:=6) (by omega) (of_decide_eq_true (by kernel_rfl)) (by kernel_rfl) (by kernel_rfl)
theorem lawT:WideMaps.KeyLaw Tryz.prog 131:=deep_law_laid pfLaid (m:=6) (by omega) (of_decide_eq_true (by kernel_rfl)) (by kernel_rfl) (by kernel_rfl)
theorem litI (D:Nat) {n:Int} (h:(Lit.int .i64 n).wf=true):Tryz.prog.keyLits (D+1) 3 [.int .i64 n]=some [.int .i64 n]:=by
 simp [Program.keyLits,Tryz.underlying3,h]
theorem litT (D:Nat) {a b:Int} (ha:(Lit.int .i64 a).wf=true) (hb:(Lit.int .i64 b).wf=true):Tryz.prog.keyLits (D+2) 32 [.int .i64 a, .int .i64 b]=some [.int .i64 a, .int .i64 b]:=by
 have c2:Tryz.prog.cellsOf 32=2:=by kernel_rfl
 have c3:Tryz.prog.cellsOf 3=1:=by kernel_rfl
 unfold Program.keyLits;rw [Tryz.underlying32];simp only;rw [if_pos ⟨c2.symm,by kernel_rfl⟩];simp [c3,litI _ ha,litI _ hb]
theorem keyS (s:Sp) (h:spOk s):∃ l,keyOf Tryz.prog 233 (spV s)=some l:=by
 obtain ⟨h0,h1,h2,h3⟩:=h;have w0:=wf63 h0;have w1:=wf63 h1;have w2:=wf63 h2;have w3:=wf63 h3;have hk:Tryz.prog.keyType 233=true:=by kernel_rfl
 have c1:Tryz.prog.cellsOf 233=4:=by kernel_rfl
 have c2:Tryz.prog.cellsOf 32=2:=by kernel_rfl
 have c3:Tryz.prog.cellsOf 3=1:=by kernel_rfl
 obtain ⟨m,hm⟩:=sizeT;unfold keyOf;rw [Tryz.underlying233];simp only [hk,Bool.true_and];have hf:(spV s).formed Tryz.prog 233=true:=by
  simp [Value.formed,Tryz.underlying233,c1]
 rw [hf,if_pos rfl,hm];unfold Program.keyLits;rw [Tryz.underlying233];simp only;rw [if_pos ⟨by rw [c1];simp [Value.cells],by kernel_rfl⟩];simp [c2,c3,Value.cells,litI _ w0,litI _ w1,litT _ w2 w3]
theorem keyT (s:Int×Int) (h:thOk s):∃ l,keyOf Tryz.prog 131 (thV s)=some l:=by
 obtain ⟨h0,h1⟩:=h;have w0:=wf63 h0;have w1:=wf63 h1;have hk:Tryz.prog.keyType 131=true:=by kernel_rfl
 have c1:Tryz.prog.cellsOf 131=2:=by kernel_rfl
 have c3:Tryz.prog.cellsOf 3=1:=by kernel_rfl
 obtain ⟨m,hm⟩:=sizeT;unfold keyOf;rw [Tryz.underlying131];simp only [hk,Bool.true_and];have hf:(thV s).formed Tryz.prog 131=true:=by
  simp [Value.formed,Tryz.underlying131,c1]
 rw [hf,if_pos rfl,hm];unfold Program.keyLits;rw [Tryz.underlying131];simp only;rw [if_pos ⟨by rw [c1];simp [Value.cells],by kernel_rfl⟩];simp [c3,Value.cells,litI _ w0,litI _ w1]
theorem encS:KeyEnc 233 spV spOk:=⟨lawS,keyS,fun s s' h=>by
 simp at h;exact Prod.ext (Prod.ext h.1 h.2.1) (Prod.ext h.2.2.1 h.2.2.2)⟩
theorem encT:KeyEnc 131 thV thOk:=⟨lawT,keyT,fun s s' h=>by
 simp at h;exact Prod.ext h.1 h.2⟩
open Go.ChangeMaps (setBlock)
theorem below_setBlock {B:Nat} {w W:World} {b:Nat} {o:Obj} (h:Below B w W) (hb:B<=b):Below B w (setBlock W b o):=by
 refine ⟨h.os,h.tape,h.output,by simp [setBlock,h.size],fun k hk=>?_⟩;simp only [setBlock,Array.getElem?_setIfInBounds];rw [if_neg (by omega)];exact h.block k hk
theorem size_setBlock (W:World) (b:Nat) (o:Obj):(setBlock W b o).heap.size=W.heap.size:=by simp [setBlock]
def leftN (w:World) (b r:Nat):Nat :=
 match w.heap[b]?,w.heap[r]? with
 | some (.map es _),some (.mapIter _ _ seen _)=>(leftOf es seen).size
 | _,_=>0
section
variable {κ:Type} {ek:κ->Value} {ok:κ->Prop} {w:World} {b r:Nat} {M left:List (κ×Int)}
theorem Ranging.count (h:Ranging ek ok w b r M left):leftN w b r=left.length:=by
 obtain ⟨es,clock,seen,h1,h2,_,_,_,hl,_⟩:=h;unfold leftN;rw [h1,h2];have:=congrArg List.length hl
 simpa using this
theorem Ranging.nodup (h:Ranging ek ok w b r M left):(M.map Prod.fst).Nodup:=by
 obtain ⟨es,clock,seen,_,_,hs,hm,_⟩:=h;exact mapIs_nodup hs hm
variable {ops:Array Oper} {rest:List Oper} {o:Oper} {a:Act} {Q:Exit->Act->World->Prop}
theorem wp_range (w:World) (hg:o.guard=none) (m:Operand) (t:TypeId) (hop:o.op=Op.range t m) (k e:TypeId) (ht:Tryz.prog.underlying t=some (.map k e)) (b:Nat) (M:List (κ×Int)) (hm:a.eval m= .map (some b)) (h:MapIs ek ok w b M)
  (hK:∀ w',Ranging ek ok w' b w.heap.size M M->Below w.heap.size w w'->w'.heap.size=w.heap.size+1->wpList Tryz.prog ops Q rest (a.put o.dst (.pointer (some ⟨w.heap.size,0,none⟩))) w'):wpList Tryz.prog ops Q (o::rest) a w:=by
 refine wpList_plain hg fun K' hK'=>?_;obtain ⟨w',hrun,r1,r2,r3⟩:=Ranging.start h ht;unfold Oper.wp;simp [execOp,hop,hm,hrun,Result.andThen];exact hK' _ _ (hK w' r1 r2 r3)
theorem wp_next (w:World) (hg:o.guard=none) (it:Operand) (hop:o.op=Op.next it false) (b r:Nat) (M left:List (κ×Int)) (hit:a.eval it= .pointer (some ⟨r,0,none⟩)) (h:Ranging ek ok w b r M left)
  (hDone:left=[]->wpList Tryz.prog ops Q rest (a.put o.dst (.tuple #[.bool false])) w)
  (hMore:∀ (p:κ×Int) (left':List (κ×Int)) (w':World),left.Perm (p::left')->Ranging ek ok w' b r M left'->(Instr.entry (.pointer (some ⟨r,0,none⟩))).run Tryz.prog w'= .ok (.tuple #[ek p.1, .int .i64 p.2]) w'->Bx r w w'->w'.heap.size=w.heap.size->left'.length+1=left.length ->
   wpList Tryz.prog ops Q rest (a.put o.dst (.tuple #[.bool true,ek p.1, .int .i64 p.2])) w'):wpList Tryz.prog ops Q (o::rest) a w:=by
 refine wpList_plain hg fun K' hK'=>?_;unfold Oper.wp
 rcases h.next o.type with ⟨h0,hrun⟩|⟨p,left',w',hp,hrun,hr,hen,hx,hs,hl⟩
 ·simp [execOp,hop,hit,hrun,Result.andThen];exact hK' _ _ (hDone h0)
 ·simp [execOp,hop,hit,hrun,Result.andThen];exact hK' _ _ (hMore p left' w' hp hr hen hx hs hl)
end
section
variable {K:Type} {lt:K->K->Bool}
theorem collected [DecidableEq K] (O:Ord lt) {l M L l':List (K×Int)} (hn:(M.map Prod.fst).Nodup) (ht:∀ s,tot M s=tot l s) (hL:L.Perm (M.filter fun r=>decide (r.2≠0))) (hp:l'.Perm L) (hs:l'.Pairwise (fun p q=>lt q.1 p.1=false)):l'=sumL lt l:=by
 have hp':=hp.trans hL;have hnod:(l'.map Prod.fst).Nodup:=(hp'.map Prod.fst).nodup_iff.2 (hn.sublist ((List.filter_sublist (l:=M)).map _));refine sumL_uniq O ?_ ?_ fun s=>?_
 ·have h1:l'.Pairwise fun p q=>p.1≠q.1:=List.pairwise_map.1 hnod;refine (List.Pairwise.and hs h1).imp fun {a b} ⟨h2,h3⟩=>?_;cases e:lt a.1 b.1
  ·exact absurd (O.tri _ _ e h2) h3
  ·rfl
 ·intro r hr;have:=(List.mem_filter.1 (hp'.mem_iff.1 hr)).2
  simpa using this
 ·rw [tot_perm hp',filter_nz_tot,ht]
theorem collect_yes {M done left left' L:List (K×Int)} {p:K×Int} (h:M.Perm (done++left)) (hp:left.Perm (p::left')) (hL:L.Perm (done.filter fun r=>decide (r.2≠0))) (h0:p.2≠0) :
  M.Perm ((done++[p])++left')/\(L++[p]).Perm ((done++[p]).filter fun r=>decide (r.2≠0)):=by
 constructor
 ·rw [List.append_assoc];exact h.trans (hp.append_left done)
 ·rw [List.filter_append];have:[p].filter (fun r=>decide (r.2≠0))=[p]:=by simp [h0]
  rw [this];exact hL.append_right _
theorem collect_no {M done left left' L:List (K×Int)} {p:K×Int} (h:M.Perm (done++left)) (hp:left.Perm (p::left')) (hL:L.Perm (done.filter fun r=>decide (r.2≠0))) (h0:p.2=0) :
  M.Perm ((done++[p])++left')/\L.Perm ((done++[p]).filter fun r=>decide (r.2≠0)):=by
 constructor
 ·rw [List.append_assoc];exact h.trans (hp.append_left done)
 ·rw [List.filter_append];have:[p].filter (fun r=>decide (r.2≠0))=[]:=by simp [h0]
  rw [this,List.append_nil];exact hL
end
theorem len64_0 (w:World):Calls Tryz.prog 214 #[.int .u64 0] w fun e w'=>(∃ r:Int,e= .returned (.int .i64 r))/\w'=w:=by
 go_enter Tryz.func214,Tryz.ntmps214;go_wp2_with fail;go_ret;exact ⟨⟨_,rfl⟩,rfl⟩
theorem len_0 (w:World):Calls Tryz.prog 166 #[.int .u64 0] w fun e w'=>(∃ r:Int,e= .returned (.int .i64 r))/\w'=w:=by
 go_enter Tryz.func166,Tryz.ntmps166
 go_wp2_with (go_at_call 214;refine (len64_0 _).mono ?_;rintro e w' ⟨⟨r,rfl⟩,rfl⟩)
 go_ret;exact ⟨⟨_,rfl⟩,rfl⟩
theorem insertRow_0 (fv:Value) (w:World) :
  Calls Tryz.prog 270 #[.slice none 0 0, .int .i64 0, .int .i64 0,fv] w fun e w'=>e= .returned (.tuple #[])/\w'=w:=by
 go_enter Tryz.func270,Tryz.ntmps270;go_wp2_with fail;refine wp_loop_rounds 1 ?_;rw [rounds_succ];go_wp2_with fail
 go_end0
 exact ⟨rfl,rfl⟩
theorem pdqRow_0 (r:Int) (fv:Value) (w:World) :
  Calls Tryz.prog 259 #[.slice none 0 0, .int .i64 0, .int .i64 0, .int .i64 r,fv] w fun e w'=>e= .returned (.tuple #[])/\w'=w:=by
 go_enter Tryz.func259,Tryz.ntmps259;go_wp2_with fail;refine wp_loop_rounds 1 ?_;rw [rounds_succ];go_wp2_with fail;refine (insertRow_0 _ _).mono ?_;rintro e w1 ⟨rfl,rfl⟩;go_wp2_with fail
 (try simp only [Exit.inBlock,Exit.then])
 refine bodyPost_ret (results_none rfl _ _ _) rfl ?_;exact ⟨rfl,rfl⟩
theorem sortRow_0 (fv:Value) (w:World):Calls Tryz.prog 238 #[.slice none 0 0,fv] w fun e w'=>e= .returned (.tuple #[])/\w'=w:=by
 go_enter Tryz.func238,Tryz.ntmps238
 go_wp2_with (first|(go_at_call 166;refine (len_0 _).mono ?_;rintro e w' ⟨⟨r,rfl⟩,rfl⟩)|(go_at_call 259;refine (pdqRow_0 _ _ _).mono ?_;rintro e w1 ⟨rfl,rfl⟩))
 go_end0
 exact ⟨rfl,rfl⟩
theorem insertItem_0 (fv:Value) (w:World) :
  Calls Tryz.prog 247 #[.slice none 0 0, .int .i64 0, .int .i64 0,fv] w fun e w'=>e= .returned (.tuple #[])/\w'=w:=by
 go_enter Tryz.func247,Tryz.ntmps247;go_wp2_with fail;refine wp_loop_rounds 1 ?_;rw [rounds_succ];go_wp2_with fail
 go_end0
 exact ⟨rfl,rfl⟩
theorem pdqItem_0 (r:Int) (fv:Value) (w:World) :
  Calls Tryz.prog 227 #[.slice none 0 0, .int .i64 0, .int .i64 0, .int .i64 r,fv] w fun e w'=>e= .returned (.tuple #[])/\w'=w:=by
 go_enter Tryz.func227,Tryz.ntmps227;go_wp2_with fail;refine wp_loop_rounds 1 ?_;rw [rounds_succ];go_wp2_with fail;refine (insertItem_0 _ _).mono ?_;rintro e w1 ⟨rfl,rfl⟩;go_wp2_with fail
 (try simp only [Exit.inBlock,Exit.then])
 refine bodyPost_ret (results_none rfl _ _ _) rfl ?_;exact ⟨rfl,rfl⟩
theorem sortItem_0 (fv:Value) (w:World):Calls Tryz.prog 177 #[.slice none 0 0,fv] w fun e w'=>e= .returned (.tuple #[])/\w'=w:=by
 go_enter Tryz.func177,Tryz.ntmps177
 go_wp2_with (first|(go_at_call 166;refine (len_0 _).mono ?_;rintro e w' ⟨⟨r,rfl⟩,rfl⟩)|(go_at_call 227;refine (pdqItem_0 _ _ _).mono ?_;rintro e w1 ⟨rfl,rfl⟩))
 go_end0
 exact ⟨rfl,rfl⟩
open Go.Shelf Go.Lib
section
variable {α:Type} [Inhabited α]
theorem flatK_get {enc:α->List Value} {k:Nat} (hk:∀ x,(enc x).length=k) {l:List α} {i:Nat} {x:α} (h:l[i]?=some x) {j:Nat} (hj:j<k):(Sort.flatK enc k l.toArray)[i*k+j]?=(enc x)[j]?:=by
 have hi:=(List.getElem?_eq_some_iff.1 h).1;have hlt:i*k+j<l.toArray.size*k:=by
  have:(i+1)*k<=l.length*k:=Nat.mul_le_mul_right k hi;rw [Nat.add_mul] at this;simp;omega
 have e1:(i*k+j) / k=i:=by
  rw [Nat.mul_comm,Nat.mul_add_div (by omega),Nat.div_eq_of_lt hj,Nat.add_zero]
 have e2:(i*k+j)%k=j:=by
  rw [Nat.mul_comm,Nat.mul_add_mod,Nat.mod_eq_of_lt hj]
 have hx:l.toArray[i]! = x:=by
  rw [getElem!_pos l.toArray i (by simpa using hi)]
  simpa using (List.getElem?_eq_some_iff.1 h).2
 simp only [Sort.flatK,Array.getElem?_map];rw [Array.getElem?_range,if_pos hlt,Option.map_some,e1,e2,hx];rw [getElem!_pos (enc x) j (by rw [hk];exact hj),List.getElem?_eq_getElem (by rw [hk];exact hj)]
theorem holdsK_of_fill {enc:α->List Value} {k:Nat} {w:World} {g:Nat} {c:Array Value} {t:TypeId} {l:List α} (hk:∀ x,(enc x).length=k) (h:Bk w g c t) (hf:FillK enc k c l l.length):Sort.HoldsK enc k w g 0 l.toArray:=by
 intro j hj;rw [Sort.size_flatK] at hj;have hj':j<l.length*k:=by simpa using hj
 have hk0:0<k:=by
  rcases Nat.eq_zero_or_pos k with e|e
  ·subst e;omega
  ·exact e
 have e:j=j / k*k+j%k:=by rw [Nat.mul_comm];exact (Nat.div_add_mod j k).symm
 have hq:j / k<l.length:=Nat.div_lt_of_lt_mul (by rw [Nat.mul_comm];exact hj');have hr:j%k<k:=Nat.mod_lt _ hk0;have h1:=hf _ _ hq (List.getElem?_eq_getElem hq) _ hr;have h2:=flatK_get hk (List.getElem?_eq_getElem hq) hr;rw [<- e] at h1 h2;refine ⟨?_,h.free _⟩;rw [Nat.zero_add];have hs:j<(Sort.flatK enc k l.toArray).size:=by rw [Sort.size_flatK];exact hj
 have h3:(Sort.flatK enc k l.toArray)[j]?=some ((Sort.flatK enc k l.toArray)[j]!):=by rw [getElem!_pos _ j hs,Array.getElem?_eq_getElem hs]
 rw [h2] at h3;exact h.cell (h1.trans h3)
theorem fill_of_put {enc:α->List Value} {k:Nat} (hk:∀ x,(enc x).length=k) {c:Array Value} {l l':List α} (hl:l'.length=l.length) (hf:l.length*k<=c.size):FillK enc k (Sort.putCells id 0 (Sort.flatK enc k l'.toArray) c) l' l'.length:=by
 intro i x hi hx j hj;have hlt:i*k+j<l'.length*k:=by
  have:(i+1)*k<=l'.length*k:=Nat.mul_le_mul_right k hi;rw [Nat.add_mul] at this;omega
 have hc:i*k+j<c.size:=by rw [hl] at hlt;omega
 have h2:=flatK_get hk hx hj;have hs:i*k+j<(Sort.flatK enc k l'.toArray).size:=by rw [Sort.size_flatK];simpa using hlt
 rw [<- h2];unfold Sort.putCells;rw [Array.getElem?_mapIdx,Array.getElem?_eq_getElem hc,Option.map_some,if_pos ⟨by omega,by omega⟩,Nat.sub_zero]
 show some ((Sort.flatK enc k l'.toArray)[i*k+j]!)=_
 rw [getElem!_pos (Sort.flatK enc k l'.toArray) (i*k+j) hs,Array.getElem?_eq_getElem hs]
theorem sort_own {enc:α->List Value} {k:Nat} {t:TypeId} {w:World} {B:Nat} {v:Value} {l:List α} (ρ:Ren) (L:SlLaysF0.n6 Tryz.prog ρ) (hk:∀ x,(enc x).length=k) (h1:∀ x,∀ u∈enc x,u.oneCell'=true)
  (aE:∀ w,(isAgg (ρ.t 24)).run Tryz.prog w= .ok true w) (zE:∀ w,(Go.sizeOf (ρ.t 24)).run Tryz.prog w= .ok k w) (cf:α->α->Int) (hO:Sort.SWO (ltOf cf)) (g:Nat) (eg:∀ args w,(callFunc g args).run Tryz.prog w= .ok (.enter g args) w)
  (hcmp:∀ (x y:α) (W:World),Calls Tryz.prog g #[.agg (enc x).toArray, .agg (enc y).toArray] W fun e w'=>e= .returned (.int .i64 (cf x y))/\∃ q os',w'=Sort.grow (W.drewN q) os')
  (hnone:Calls Tryz.prog (ρ.f 6) #[.slice none 0 0, .func (.func g) #[] #[]] w fun e w'=>e= .returned (.tuple #[])/\w'=w) (h:OwnK enc k t w B v l) (hl:l.length<=2097152) (hB:B<=w.heap.size) :
  Calls Tryz.prog (ρ.f 6) #[v, .func (.func g) #[] #[]] w fun e w'=>e= .returned (.tuple #[])/\∃ l':List α,l'.Perm l/\l'.Pairwise (fun p q=>ltOf cf q p=false)/\OwnK enc k t w' B v l'/\Below B w w':=by
 rcases ownK_open h hk with ⟨rfl,rfl⟩|⟨b,cap,c,rfl,hg,hb,hs,hc,hm,hfill⟩
 ·refine hnone.mono ?_;rintro e w' ⟨rfl,rfl⟩;exact ⟨rfl,[],List.Perm.refl _,by simp,h,Below.refl _ _⟩
 ·have hH:=holdsK_of_fill hk hb hfill;have hcon:=AnyQ.slices_SortFunc L k aE zE enc hk h1 cf hO g #[] b 0 cap l.toArray w eg (fun m os dk _ x y=>by simpa using hcmp x y _) hH hb.lt (by simp;omega);have hsz:l.toArray.size=l.length:=by simp
  rw [hsz] at hcon;refine hcon.mono ?_;rintro e w' ⟨rfl,d',n,os,hp,hsrt,rfl⟩;obtain ⟨p1,_,p3⟩:=hp;have hd:d'.size=l.length:=by rw [p1];simp
  have hx:d'.extract 0 l.length=d':=by rw [<- hd];simp
  have hperm:d'.toList.Perm l:=by
   rw [hx] at p3
   simpa using p3
  have hlen:d'.toList.length=l.length:=by simpa using hd
  have hblt:=hb.lt;have hblk:(sortWorldK enc k w b 0 n d' os).heap[b]?=some (.cells (Sort.putCells id 0 (Sort.flatK enc k d') c) t (0,0)):=by
   have hbb:w.heap[b]?=some (.cells c t (0,0)):=hb;have hlt2:b<(Sort.putRowK enc k (Sort.ahead w n) b 0 d').heap.size:=by
    simp only [Sort.putRowK,Sort.putRow,Sort.mapBlock];simpa [Sort.ahead] using hblt
   show ((Sort.putRowK enc k (Sort.ahead w n) b 0 d').heap++os)[b]?=_
   rw [Array.getElem?_append_left hlt2];simp only [Sort.putRowK,Sort.putRow,Sort.mapBlock,Sort.ahead,Array.getElem?_modify,if_pos,hbb,Option.map_some]
   rfl
  have hcs:(Sort.putCells id 0 (Sort.flatK enc k d') c).size=cap*k:=by simp [Sort.putCells,hs]
  have hfl:FillK enc k (Sort.putCells id 0 (Sort.flatK enc k d') c) d'.toList d'.toList.length:=by
   have:=fill_of_put hk (c:=c) (l:=l) (l':=d'.toList) hlen (by rw [hs];exact Nat.mul_le_mul_right k hc)
   simpa using this
  have hown:=ownK_of_fill (enc:=enc) (B:=B) (w:=sortWorldK enc k w b 0 n d' os) hblk hfl hk hcs (by rw [hlen];exact hc) hm hg;refine ⟨rfl,d'.toList,hperm,?_,by rw [hlen] at hown;simpa only [hlen] using hown,?_⟩
  ·refine List.pairwise_iff_getElem.2 fun i j hi hj hij=>?_;have:=hsrt i j (by omega) hij (by omega);rw [getElem!_pos d' i (by simpa using hi),getElem!_pos d' j (by simpa using hj)] at this
   simpa using this
  ·refine ⟨rfl,rfl,rfl,?_,fun q hq=>?_⟩
   ·show w.heap.size<=((Sort.putRowK enc k (Sort.ahead w n) b 0 d').heap++os).size
    simp only [Sort.putRowK,Sort.putRow,Sort.mapBlock,Sort.ahead];simp
   ·show ((Sort.putRowK enc k (Sort.ahead w n) b 0 d').heap++os)[q]?=_
    have hq2:q<(Sort.putRowK enc k (Sort.ahead w n) b 0 d').heap.size:=by
     simp only [Sort.putRowK,Sort.putRow,Sort.mapBlock,Sort.ahead];simp;omega
    rw [Array.getElem?_append_left hq2];simp only [Sort.putRowK,Sort.putRow,Sort.mapBlock,Sort.ahead,Array.getElem?_modify];rw [if_neg (by omega)]
end
theorem swo_of {α K:Type} {lt:K->K->Bool} [DecidableEq K] (O:Ord lt) (key:α->K) {cf:α->α->Int} (h:∀ x y,ltOf cf x y=lt (key x) (key y)):Sort.SWO (ltOf cf) where
 irrefl x:=by rw [h];exact O.irr _
 trans x y z h1 h2:=by rw [h] at *;exact O.trans _ _ _ h1 h2
 ntrans x y z h1 h2:=by
  rw [h] at *;cases e:lt (key x) (key z)
  ·rfl
  ·by_cases exy:key x=key y
   ·rw [<- exy] at h2;rw [e] at h2;cases h2
   ·have hyx:lt (key y) (key x)=true:=by
     cases e2:lt (key y) (key x)
     ·exact absurd (O.tri _ _ h1 e2) exy
     ·rfl
    have:=O.trans _ _ _ hyx e;rw [this] at h2;cases h2
theorem sortR_any {w:World} {B:Nat} {v:Value} {l:List Rw} (h:OwnR w B v l) (hl:l.length<=2097152) (hB:B<=w.heap.size) :
  Calls Tryz.prog 238 #[v, .func (.func 91) #[] #[]] w fun e w'=>e= .returned (.tuple #[])/\∃ l':List Rw,l'.Perm l/\l'.Pairwise (fun p q=>ltS q.1 p.1=false)/\OwnR w' B v l'/\Below B w w':=by
 have hlt:∀ x y:Rw,ltOf (fun x y:Rw=>cmpS x.1 y.1) x y=ltS x.1 y.1:=fun x y=>cmpS_lt _ _;have:=sort_own sortR_ren sortR rowC_len (fun x u hu=>by simp at hu;rcases hu with rfl|rfl|rfl|rfl|rfl<;>rfl) Tryz.isAgg55 Tryz.sizeOf55 (fun x y:Rw=>cmpS x.1 y.1) (swo_of ltS_ord (fun x:Rw=>x.1) hlt) 91 (enters_of Tryz.func91 (by kernel_rfl) rfl)
  (fun x y W=>by
   refine (compareR_any _ _ _ _ _ _ _ _ _ _ W).mono ?_;rintro e w' ⟨he,hg⟩;exact ⟨by rw [he,cmpS_or],gr_grow hg⟩) (sortRow_0 _ _) h hl hB
 refine this.mono ?_;rintro e w' ⟨he,l',h1,h2,h3,h4⟩;exact ⟨he,l',h1,h2.imp (fun {a b} h=>by rw [hlt] at h;exact h),h3,h4⟩
theorem sortI_any {w:World} {B:Nat} {v:Value} {l:List It} (h:OwnI w B v l) (hl:l.length<=2097152) (hB:B<=w.heap.size) :
  Calls Tryz.prog 177 #[v, .func (.func 143) #[] #[]] w fun e w'=>e= .returned (.tuple #[])/\∃ l':List It,l'.Perm l/\l'.Pairwise (fun p q=>ltT q.1 p.1=false)/\OwnI w' B v l'/\Below B w w':=by
 have hlt:∀ x y:It,ltOf (fun x y:It=>cmpT x.1 y.1) x y=ltT x.1 y.1:=fun x y=>cmpT_lt _ _;have:=sort_own sortI_ren sortI itC_len (fun x u hu=>by simp at hu;rcases hu with rfl|rfl|rfl<;>rfl) Tryz.isAgg98 Tryz.sizeOf98 (fun x y:It=>cmpT x.1 y.1) (swo_of ltT_ord (fun x:It=>x.1) hlt) 143 (enters_of Tryz.func143 (by kernel_rfl) rfl)
  (fun x y W=>by
   refine (compareI_any _ _ _ _ _ _ W).mono ?_;rintro e w' ⟨he,hg⟩;exact ⟨by rw [he,cmpZ_or],gr_grow hg⟩) (sortItem_0 _ _) h hl hB
 refine this.mono ?_;rintro e w' ⟨he,l',h1,h2,h3,h4⟩;exact ⟨he,l',h1,h2.imp (fun {a b} h=>by rw [hlt] at h;exact h),h3,h4⟩
end Go.Proofs.YtbdpcngcbnoioaaGreatDoor
set_option maxRecDepth 100000
set_option maxHeartbeats 8000000
namespace Go.Proofs.YtbdpcngcbnoioaaGreatDoor
open Go.RowKit
open Go.ChangeMaps (setBlock)
theorem zeroI:∀ w:World,(zeroValue 3).run Tryz.prog w= .ok (.int .i64 0) w:=Tryz.zeroValue3
theorem spotOf_any (K V A B D:Int) (w:World) :
  Calls Tryz.prog 202 #[rv K V A B D] w fun e w'=>e= .returned (spV ((K,V),(A,B)))/\Below w.heap.size w w':=by
 obtain ⟨y0,y1,y2,y3,y4⟩:=(Bk.new (w:=w) #[.int .i64 K, .int .i64 V, .int .i64 A, .int .i64 B, .int .i64 D] 55 rfl).five;go_enter Tryz.func202,Tryz.ntmps202;go_wp2_with fail;refine bodyPost_ret (by simp [results,Tryz.results202,go_sem];try rfl) rfl ?_;exact ⟨rfl,bAz (bAz (Below.refl w.heap.size w) _) _⟩
theorem rowsIn_any (mb:Nat) (M l:List (Sp×Int)) (W:World) (hmap:MapIs spV spOk W mb M) (hT:∀ s,tot M s=tot l s) (hml:M.length<=1000000) :
  Calls Tryz.prog 203 #[.map (some mb)] W fun e w'=>∃ o:Value,e= .returned o/\OwnR w' W.heap.size o (sumL ltS l)/\Below W.heap.size W w':=by
 have HT2:Hid (∀ s,tot M s=tot l s):=hT;have hmt:=hmap.lt;clear hT;go_enter Tryz.func203,Tryz.ntmps203
 go_wp2_with (at_range;refine wp_range _ rfl _ _ rfl _ _ Tryz.underlying231 _ M rfl hmap ?_;intro w0 hrg hb0 hs0)
 go_frame
 have hbw0:=hb0;clear hmap hb0
 go_loopw [3] (fun o wr=>∃ (done left L:List (Sp×Int)),Ranging spV spOk wr mb W.heap.size M left/\M.Perm (done++left)/\L.Perm (done.filter fun r=>decide (r.2≠0))/\OwnR wr (W.heap.size+1) o L/\W.heap.size+1<=wr.heap.size/\Below W.heap.size W wr) (fun _ wr=>leftN wr mb W.heap.size)
 case atStart=>exact ⟨[],M,[],hrg,by simp,by simp,oN _ _ _ _ _,by omega,hbw0⟩
 case round =>
  clear hrg hbw0 hs0;obtain ⟨done,left,L,hrg,hpm,hpl,hown,hsz,hb⟩:=hrel;have HPM:=(show Hid _ from hpm);have HPL:=(show Hid _ from hpl);have HO:Hid (OwnR wr (W.heap.size+1) u3 L):=hown;have hcnt:=hrg.count;have hLM:L.length<=M.length:=by
   have h1:=hpl.length_eq;have h2:=List.length_filter_le (fun r:Sp×Int=>decide (r.2≠0)) done;have h3:=hpm.length_eq;simp at h3;omega
  have hM:=(show Hid _ from hrg.nodup);clear hpm hpl hown
  go_wp2_with (at_next;refine wp_next _ rfl _ rfl _ _ M left rfl hrg ?_ ?_)
  ·intro hz;subst hz;have O1:OwnR wr (W.heap.size+1) u3 L:=HO.out;have hdone:L.Perm (M.filter fun r=>decide (r.2≠0)):=by
    have h1:=HPM.out;rw [List.append_nil] at h1;exact HPL.out.trans (h1.filter _).symm
   have HD:=(show Hid _ from hdone);clear hdone HO HPM HPL hcnt;have hll:L.length<=2097152:=by omega
   go_wp2_with fail;refine (sortR_any O1 hll hsz).mono ?_;rintro e w2 ⟨rfl,l',hp,hsrt,own2,hb2⟩;have hfin:l'=sumL ltS l:=collected ltS_ord hM.out HT2.out HD.out hp hsrt;have hbw:Below W.heap.size W w2:=hb.trans (hb2.mono (by omega));have O2:Hid (OwnR w2 (W.heap.size+1) u3 l'):=own2;clear own2 hp hsrt O1;go_wp2_with fail;go_ret;refine ⟨_,rfl,?_,hbw⟩;rw [<- hfin];exact oLz O2.out (by omega)
  ·intro K V A B D left' w1 hp hrg1 hen hx hs1 hl1;have O1:OwnR w1 (W.heap.size+1) u3 L:=ownK_beside HO.out hx (fun q e=>by have:=oB HO.out q e;omega);have hb1:Below W.heap.size W w1:=hx.below hb hb.size (by omega);have hsz1:W.heap.size+1<=w1.heap.size:=by omega
   have hcnt1:=hrg1.count;clear hx hrg hb HO hs1
   by_cases hD:D=0
   ·subst hD;have HZ:=(show Hid _ from collect_no HPM.out hp HPL.out rfl);have hrg2:=hrg1.keep (bAz (Below.refl _ w1) (.cells #[.int .i64 K, .int .i64 V, .int .i64 A, .int .i64 B] 233));have O2:Hid (OwnR (w1.alloc (.cells #[.int .i64 K, .int .i64 V, .int .i64 A, .int .i64 B] 233)) (W.heap.size+1) u3 L):=O1.alloc _;clear O1 HPM HPL hp;go_wp2_with fail;go_roundw
    case rel=>exact ⟨_,left',L,hrg2,HZ.out.1,HZ.out.2,O2.out,by simp;omega,bAz hb1 _⟩
    case measure=>rw [hrg2.count];omega
   ·have nD:(D==0)=false:=by simpa using hD
    have HZ:=(show Hid _ from collect_yes HPM.out hp HPL.out hD);clear HPM HPL hp
    go_wp2_with (at_builtin;refine appR _ rfl _ _ rfl (W.heap.size+1) _ _ rfl ((O1.alloc _).alloc _) _ _ _ _ _ _ rfl (Bk.new _ _ (by simp)) (by omega) (by simp;omega) ?_;intro g3 cap3 w3 own3 hgrow hlg)
    have hrg3:=(hrg1.keep (bAz (bAz (Below.refl _ w1) (.cells #[.int .i64 K, .int .i64 V, .int .i64 A, .int .i64 B] 233)) (.cells #[.int .i64 K, .int .i64 V, .int .i64 A, .int .i64 B, .int .i64 D] 55))).grew hgrow (fun q e=>by have:=oB O1 q e;omega);have hb3:Below W.heap.size W w3:=Below.grew (bAz (bAz hb1 _) _) hgrow (by simp;omega) (fun q e=>by have:=oB O1 q e;omega);have hs3:W.heap.size+1<=w3.heap.size:=by have:=hgrow.size;simp at this;omega
    go_roundw
    case rel=>exact ⟨_,left',L++[(((K,V),(A,B)),D)],hrg3,HZ.out.1,HZ.out.2,own3,hs3,hb3⟩
    case measure=>rw [hrg3.count];omega
theorem tot_entry {M M' l:List Rw} {k:Nat} {s0:Sp} {D:Int} (hr:l[k]?=some (s0,D)) (HT:∀ s,tot M s=tot (l.take k) s) (ht':∀ s,tot M' s=if s0=s then tot M s0+D else tot M s) (s:Sp):tot M' s=tot (l.take (k+1)) s:=by
 rw [ht',tSz hr,tot_snoc]
 by_cases e:s0=s
 ·rw [if_pos e,if_pos e,<-HT,e]
 ·rw [if_neg e,if_neg e,HT];omega
theorem setBlock_atS {W:World} {b k:Nat} {o:Obj} (h:k≠b):(setBlock W b o).heap[k]?=W.heap[k]?:=by
 simp only [setBlock,Array.getElem?_setIfInBounds];rw [if_neg (Ne.symm h)]
theorem cell_setBlockS {W:World} {b g i:Nat} {o:Obj} (h:g≠b):(setBlock W b o).cell? ⟨g,i,none⟩=W.cell? ⟨g,i,none⟩:=World.cell?_of_block (w:=W) (setBlock_atS h)
theorem sumUp_any (v:Value) (l:List Rw) (w:World) (h:Rs w v l) (hl:l.length<=1000000) (ha:absum l<=2305843009213693952) (hk:∀ r∈l,spOk r.1) :
  Calls Tryz.prog 155 #[v] w fun e w'=>∃ o:Value,e= .returned o/\OwnR w' w.heap.size o (sumL ltS l)/\Below w.heap.size w w':=by
 have HA:Hid _:=ha;have HK:Hid _:=hk;obtain ⟨a,cap,rfl,hc,hm,hn,hcells⟩:=Rs.open h;unfold maxLen at hm;have HC:=(show Hid _ from hcells);clear hcells h ha hk;have hmm:=@run_makeMap Tryz.prog;go_enter Tryz.func155,Tryz.ntmps155;go_wp2_with fail;have m0:MapIs spV spOk (w.alloc (.map #[] 0)) w.heap.size []:=MapIs.new w rfl;have hb0:Below w.heap.size w (w.alloc (.map #[] 0)):=bAz (Below.refl _ _) _;clear hmm
 go_loopw [9] (fun i wr=>∃ (k:Nat) (M:List (Sp×Int)),k<=l.length/\i= .int .i64 k/\MapIs spV spOk wr w.heap.size M/\(∀ s,tot M s=tot (l.take k) s)/\M.length<=k/\Below w.heap.size w wr) (fun i _=>l.length-(intOf i).toNat)
 case atStart=>exact ⟨0,[],by omega,rfl,m0,fun s=>by simp,by simp,hb0⟩
 case round =>
  clear m0 hb0;obtain ⟨k,M,hkl,rfl,hmap,htot,hML,hb⟩:=hrel;have HT:=(show Hid (∀ s,tot M s=tot (l.take k) s) from htot);clear htot
  by_cases hlt:k<l.length
  ·obtain ⟨g,off,K,V,A,B,D,rfl,hg,hr,c0,c1,c2,c3,c4⟩:=HC.out k hlt;have d0:=cB hb c0;have d1:=cB hb c1;have d2:=cB hb c2;have d3:=cB hb c3;have d4:=cB hb c4;have HR:=(show Hid (l[k]?=some (((K,V),(A,B)),D)) from hr);have hok:=HK.out _ (List.mem_of_getElem? hr);dsimp only at hok;clear c0 c1 c2 c3 c4 hr;have ik:((k:Int)<(l.length:Int)):=by omega
   have bt0:=Bk.new (w:=wr) #[.int .i64 K, .int .i64 V, .int .i64 A, .int .i64 B, .int .i64 D] 55 rfl;have hbt:Below wr.heap.size wr (wr.alloc (.cells #[.int .i64 K, .int .i64 V, .int .i64 A, .int .i64 B, .int .i64 D] 55)):=bAz (Below.refl _ _) _;have hmap':=hmap.keep hbt;have hb':=bSz hb hbt;have hmt:=hmap.lt;have hne:wr.heap.size≠w.heap.size:=by omega
   have hsum : -4611686018427387904<=tot M ((K,V),(A,B))+D/\tot M ((K,V),(A,B))+D<=4611686018427387904:=by
    have h1:=tot_abs (l.take (k+1)) ((K,V),(A,B));rw [tSz HR.out,tot_snoc,if_pos rfl,<-HT.out] at h1;have h2:=absum_take l (k+1);rw [tSz HR.out] at h2;have:=HA.out;omega
   go_upto_region 5 with fail
   clear d0 d1 d2 d3 d4 hmap hb hbt;generalize wr.heap.size=tb at *;generalize World.alloc _ _=wt at *;have hbP:Below wt.heap.size wt wt.drew:=(Below.refl _ _).drew;obtain ⟨hs1,hs2⟩:=hsum;have HX:Hid (∀ V',Below wt.heap.size wt V'->V'.cell? ⟨tb,0,none⟩=some (.int .i64 K)/\V'.cell? ⟨tb,1,none⟩=some (.int .i64 V)/\V'.cell? ⟨tb,2,none⟩=some (.int .i64 A)/\V'.cell? ⟨tb,3,none⟩=some (.int .i64 B)/\V'.cell? ⟨tb,4,none⟩=some (.int .i64 D)):=fun V' hV=>(bt0.keep hV).five;have HXS:Hid (∀ V' o,Below wt.heap.size wt V'->(setBlock V' w.heap.size o).cell? ⟨tb,0,none⟩=some (.int .i64 K)/\(setBlock V' w.heap.size o).cell? ⟨tb,1,none⟩=some (.int .i64 V)/\(setBlock V' w.heap.size o).cell? ⟨tb,2,none⟩=some (.int .i64 A)/\(setBlock V' w.heap.size o).cell? ⟨tb,3,none⟩=some (.int .i64 B)/\(setBlock V' w.heap.size o).cell? ⟨tb,4,none⟩=some (.int .i64 D)):=fun V' o hV=>by
    rw [cell_setBlockS hne,cell_setBlockS hne,cell_setBlockS hne,cell_setBlockS hne,cell_setBlockS hne];exact HX.out V' hV
   have HLK:Hid (∀ V',Below wt.heap.size wt V'->(Instr.lookup 231 (.map (some w.heap.size)) (spV ((K,V),(A,B))) false).run Tryz.prog V'= .ok (.int .i64 (tot M ((K,V),(A,B)))) V'):=fun V' hV=>MapIs.look (hmap'.keep hV) encS Tryz.underlying231 zeroI hok;have HEN:Hid (∀ V',Below wt.heap.size wt V'->∃ (st:Nat) (o1 o2:Obj) (M':List (Sp×Int)),(Instr.mapEntry 231 (.map (some w.heap.size)) (spV ((K,V),(A,B)))).run Tryz.prog V'= .ok (.tuple #[.int .i64 (tot M ((K,V),(A,B))), .int .i64 (st:Int)]) (setBlock V' w.heap.size o1) /\
     (Instr.lookup 231 (.map (some w.heap.size)) (spV ((K,V),(A,B))) false).run Tryz.prog (setBlock V' w.heap.size o1)= .ok (.int .i64 (tot M ((K,V),(A,B)))) (setBlock V' w.heap.size o1) /\
     (Instr.entryStore 231 (.map (some w.heap.size)) (.int .i64 (st:Int)) (.int .i64 (tot M ((K,V),(A,B))+D))).run Tryz.prog (setBlock V' w.heap.size o1)= .ok () (setBlock V' w.heap.size o2) /\
     MapIs spV spOk (setBlock V' w.heap.size o2) w.heap.size M'/\(∀ s,tot M' s=tot (l.take (k+1)) s)/\M'.length<=M.length+1/\Below w.heap.size w (setBlock V' w.heap.size o2)):=fun V' hV=>by
    obtain ⟨st,o1,o2,M',e1,e2,e3,hM',ht',hl'⟩:=MapIs.enter (hmap'.keep hV) encS Tryz.underlying231 zeroI hok (tot M ((K,V),(A,B))+D);exact ⟨st,o1,o2,M',e1,e2,e3,hM',tot_entry HR.out HT.out ht',hl',below_setBlock (bSz hb' hV) (Nat.le_refl _)⟩
   clear hmap' bt0;generalize hT:tot M ((K,V),(A,B))=T at *;clear hT;have iw:IntKind.i64.wrap (T+D)=T+D:=by rw [IntKind.wrap_i64];omega
   go_wp2_with fail
   go_region_held3 (fun V'=>V'.cell? ⟨tb,0,none⟩=some (.int .i64 K)/\V'.cell? ⟨tb,1,none⟩=some (.int .i64 V)/\V'.cell? ⟨tb,2,none⟩=some (.int .i64 A)/\V'.cell? ⟨tb,3,none⟩=some (.int .i64 B)/\V'.cell? ⟨tb,4,none⟩=some (.int .i64 D))
    (first|exact HXS.out _ _ hq|exact HX.out _ hq|exact HX.out _ hbP)
    (first
     | (go_at_call 202;refine (spotOf_any K V A B D _).mono ?_;rintro e wc ⟨rfl,hbc⟩;have hq:Below wt.heap.size wt wc:=bSz hbP hbc;have e0:=HLK.out _ hq;obtain ⟨st,o1,o2,M',e1,e2,e3,hM',HN,hl',hb2⟩:=HEN.out _ hq))
   all_goals
    clear e0 e1 e2 e3;generalize setBlock _ w.heap.size o2=w2 at *;go_wp2_with fail;go_roundw
    case rel=>exact ⟨k+1,M',by omega,by go_num,hM',HN,by omega,hb2⟩
    case measure=>simp [intOf];omega
  ·obtain rfl:k=l.length:=by omega
   have HT2:Hid (∀ s,tot M s=tot l s):=fun s=>by rw [HT.out,List.take_length]
   have hbs:=hb.size;clear HT HC HK;go_wp2_with fail;refine (rowsIn_any w.heap.size M l wr hmap HT2.out (by omega)).mono ?_;rintro e w2 ⟨o,rfl,own2,hb2⟩;have O2:Hid (OwnR w2 wr.heap.size o (sumL ltS l)):=own2;clear own2;go_wp2_with fail;go_ret;exact ⟨_,rfl,oLz O2.out hbs,bSz hb hb2⟩
theorem rw_sp {r:Rw} (h:rwOkB r=true):spOk r.1:=by
 simp only [rwOkB,inB,okB,Bool.and_eq_true,decide_eq_true_eq] at h;unfold spOk fit63;omega
theorem batchOf_any (v:Value) (l:List Rw) (w:World) (h:Rs w v l) (hl:l.length<=1000000) (ha:absum l<=2305843009213693952) (hk:∀ r∈l,spOk r.1) :
  Calls Tryz.prog 87 #[v] w fun e w'=>∃ o:Value,e= .returned o/\OwnR w' w.heap.size o (sumF l)/\Below w.heap.size w w':=by
 have hsl:=sumL_len ltS l;have H:=sumUp_any v l w h hl ha hk;clear h hk ha;go_enter Tryz.func87,Tryz.ntmps87;go_wp2_with fail;refine H.mono ?_;rintro e w1 ⟨o1,rfl,own1,hb1⟩;have R1:=OwnR.rs own1 (by omega);have O1:Hid (OwnR w1 w.heap.size o1 (sumL ltS l)):=own1;clear own1 H;cases hro:rokB (sumL ltS l)
 ·have HF:Hid (sumF l=[]):=sumF_no hro;go_wp2_with fail;refine (iR hro R1).mono ?_;rintro e w2 ⟨rfl,hb2⟩;go_wp2_with fail;go_ret;refine ⟨_,rfl,?_,bSz hb1 hb2⟩;rw [HF.out];exact oN _ _ _ _ _
 ·have HF:Hid (sumF l=sumL ltS l):=sumF_ok hro;go_wp2_with fail;refine (iR hro R1).mono ?_;rintro e w2 ⟨rfl,hb2⟩;have O2:Hid (OwnR w2 w.heap.size o1 (sumL ltS l)):=oK O1.out hb2;go_wp2_with fail;go_ret;refine ⟨_,rfl,?_,bSz hb1 hb2⟩;rw [HF.out];exact O2.out
open Go.Shelf
theorem rs_src {w:World} {v:Value} {l:List Rw} (h:Rs w v l):∃ (ad:Option Addr) (cap:Nat),v= .slice ad l.length cap/\(l≠[]->∃ g off,ad=some ⟨g,off,none⟩/\∀ j u,(l.flatMap rowC)[j]?=some u->w.cell? ((⟨g,off,none⟩:Addr).add j)=some u):=by
 obtain ⟨a,cap,rfl,hc,hm,hn,h4⟩:=h;refine ⟨a,cap,rfl,fun hne=>?_⟩;have h0:0<l.length:=List.length_pos_iff.2 hne;obtain ⟨g,off,rfl,hg,_⟩:=h4 0 l[0] (List.getElem?_eq_getElem h0);refine ⟨g,off,rfl,fun j u hj=>?_⟩;have hlt:j<l.length*5:=by
  have:=(List.getElem?_eq_some_iff.1 hj).1
  rwa [flat_len rowC_len] at this
 have hq:j / 5<l.length:=by omega
 obtain ⟨g',off',e,_,c⟩:=h4 (j / 5) l[j / 5] (List.getElem?_eq_getElem hq);simp only [Option.some.injEq,Addr.mk.injEq] at e;obtain ⟨rfl,rfl,_⟩:=e;have hc2:=c (j%5) (Nat.mod_lt _ (by omega));have e2:=flat_get rowC_len l (List.getElem?_eq_getElem hq) (j:=j%5) (Nat.mod_lt _ (by omega));have e3:j / 5*5+j%5=j:=by omega
 rw [e3] at e2;rw [Nat.add_assoc,e3] at hc2;rw [Go.WideShapes.add_plain];rw [hc2,<-e2,hj]
theorem onesRs (l:List Rw):∀ u∈l.flatMap rowC,u.oneCell'=true:=by
 intro u hu;obtain ⟨r,_,hr⟩:=List.mem_flatMap.1 hu;exact onesR r u hr
theorem src_zero {w:World} (ad:Option Addr) (c:Nat):_root_.Go.Src Tryz.prog 5 28 (.slice ad 0 c) 0 [] w:=by
 cases ad with
 | none=>exact _root_.Go.Src.ofNil w Tryz.underlying28 c
 | some a=>exact _root_.Go.Src.ofSlice w Tryz.underlying28 a 0 c [] rfl (by simp) (by simp)
theorem app_zero {w:World} {B:Nat} {v:Value} {l:List Rw} (h:OwnR w B v l) (ad:Option Addr) (c:Nat) (ty:TypeId):(Builtin.append_ #[28,28] ty #[v, .slice ad 0 c]).run Tryz.prog w= .ok v w:=by
 obtain ⟨i0,hi,hz0,hz1,hz2⟩:=info_parts infoR;have hs:_root_.Go.Src Tryz.prog i0.size 28 (.slice ad 0 c) 0 [] w:=by rw [hz1];exact src_zero ad c
 rcases ownK_open h rowC_len with ⟨rfl,rfl⟩|⟨g,cap,cs,rfl,hg,hb,hss,hcc,hm,_⟩
 ·simp [Builtin.append_,run_underlying Tryz.underlying28,sizeOf,typeInfo,hi,hs.len,hs.cells]
 ·have:=run_append_room_src (P:=Tryz.prog) w 28 28 ty 55 i0 Tryz.underlying28 hi g 0 l.length cap _ 0 [] hs (by omega) (by simp) (by simp);exact this
section
variable {ops:Array Oper} {rest:List Oper} {o:Oper} {a:Act} {Q:Exit->Act->World->Prop}
theorem appRs (w:World) (hgd:o.guard=none) (s x:Operand) (ho:o.op= .call { callee:= .builtin .append,args:=#[s,x],argTypes:=#[28,28] })
  (base:Nat) (v:Value) (l:List Rw) (hs:a.eval s=v) (hown:OwnR w base v l) (v2:Value) (m:List Rw) (hx:a.eval x=v2) (hR:Rs w v2 m) (hl:l.length+m.length<=2000000) (hbase:base<=w.heap.size)
  (h:∀ v' w',OwnR w' base v' (l++m)->w.grownBy w' v.ownBlock->wpList Tryz.prog ops Q rest (a.put o.dst v') w') :
  wpList Tryz.prog ops Q (o::rest) a w:=by
 obtain ⟨i0,hi,hz0,hz1,hz2⟩:=info_parts infoR;obtain ⟨ad,cap,rfl,hsrc⟩:=rs_src hR
 by_cases hm0:m=[]
 ·subst hm0;refine wpList_plain hgd fun K' hK'=>?_;have hrun:=app_zero hown ad cap o.type;unfold Oper.wp;simp [execOp,ho,resolve,invoke,builtin,hs,hx,hrun,Result.andThen];exact hK' _ _ (h v w (by simpa using hown) ⟨rfl,rfl,rfl,Nat.le_refl _,fun _ _ _=>rfl⟩)
 ·obtain ⟨g,off,rfl,hnews⟩:=hsrc hm0;have hpos:0<m.length:=List.length_pos_iff.2 hm0;refine wpList_append_lies w hgd s x 28 ho base 55 i0 _ 5 40 Tryz.underlying28 hi hz0 hz1 hz2 rfl (by decide) v l.length (l.flatMap rowC) hs hown ⟨g,off,none⟩ m.length cap (m.flatMap rowC) hx (flat_len rowC_len m) hnews (onesRs m) hpos (by unfold maxLen;omega) (by omega) hbase w.heap.size rfl ?_;intro g' cap' w' h1 h2 _ _;refine h _ w' ?_ h2
  show w'.ownsRow _ _ _ _ _ _
  rw [List.flatMap_append,List.length_append];exact h1
end
theorem growR_any (n:Nat) (hn:n<=2000000) (w:World) :
  Calls Tryz.prog 156 #[.slice none 0 0, .int .i64 n] w fun e w'=>∃ v:Value,e= .returned v/\OwnR w' w.heap.size v []/\Below w.heap.size w w':=by
 obtain ⟨i0,hi,hz0,hz1,hz2⟩:=info_parts infoR
 by_cases h0:n=0
 ·subst h0;refine (Any8.slices_Grow_room growR none 0 0 0 w (by omega) (by omega) (by omega) (by omega)).mono ?_;rintro e w' ⟨rfl,rfl⟩;exact ⟨_,rfl,oN _ _ _ _ _,Below.refl _ _⟩
 ·refine (Any8.slices_Grow_grow growR i0 _ hi hz0 (by omega) none 0 0 n [] w (by omega) (by omega) (by rw [hz2];omega) (by omega) (by simp) (fun _=>rfl) (fun a ha=>by cases ha)).mono ?_;rintro e w' ⟨rfl,rfl⟩;have hge:=grownCap_ge w (0+n) 0 (growR_ren.t 25);have hle:=grownCap_le_maxLen w (0+n) 0 (growR_ren.t 25) (by unfold maxLen;omega);generalize grownCap w (0+n) 0 (growR_ren.t 25)=G at hge hle ⊢;have e1:(Value.agg #[.int .i64 0, .int .i64 0, .int .i64 0, .int .i64 0, .int .i64 0]).cells.size=5:=by simp [Value.cells]
  refine ⟨_,rfl,⟨by simp, .inr ⟨w.heap.size,G,_,rfl,Nat.le_refl _,heap_alloc_new w.drew _,Nat.zero_le _,hle,?_,by simp⟩⟩,bAz (Below.refl _ w).drew _⟩;simp only [Array.size_append,Builtin.zeroCells,Array.size_map,Array.size_range,e1];simp;omega
theorem growR_eq {k:Int} {n:Nat} (h:k=(n:Int)) (hn:n<=2000000) (w:World) :
  Calls Tryz.prog 156 #[.slice none 0 0, .int .i64 k] w fun e w'=>∃ v:Value,e= .returned v/\OwnR w' w.heap.size v []/\Below w.heap.size w w':=by
 subst h;exact growR_any n hn w
theorem concat_any (g0:Nat) (v1 v2:Value) (l1 l2:List Rw) (w:World) (hb:Bk w g0 #[v1,v2] 28) (h1:Rs w v1 l1) (h2:Rs w v2 l2) (hl:l1.length+l2.length<=2000000) :
  Calls Tryz.prog 88 #[.slice (some ⟨g0,0,none⟩) 2 2] w fun e w'=>∃ o:Value,e= .returned o/\OwnR w' w.heap.size o (l1++l2)/\Below w.heap.size w w':=by
 have H1:Hid (Rs w v1 l1):=h1;have H2:Hid (Rs w v2 l2):=h2;obtain ⟨a1,cap1,rfl,_,_,_,_⟩:=h1;obtain ⟨a2,cap2,rfl,_,_,_,_⟩:=h2;obtain ⟨c0,c1,_,_⟩:=hb.two;go_enter Tryz.func88,Tryz.ntmps88;generalize hn1:l1.length=n1 at *;generalize hn2:l2.length=n2 at *;have q1:(0:Int)<=(n1:Int):=by omega
 have q2:(n1:Int)<=2000000:=by omega
 have q3:(0:Int)<=(n1:Int)+(n2:Int):=by omega
 have q4:(n1:Int)+(n2:Int)<=2000000:=by omega
 have q5:¬ ((n1:Int)<0):=by omega
 have q6:¬ ((n1:Int)+(n2:Int)<0):=by omega
 have E1:Hid (l1.length=n1):=hn1;have E2:Hid (l2.length=n2):=hn2;clear hn1 hn2;go_wp2_with fail;refine wp_loop_rounds 3 ?_;rw [rounds_succ];go_wp2_with fail;rw [rounds_succ];go_wp2_with fail;rw [rounds_succ];go_wp2_with fail;refine (growR_eq (n:=n1+n2) (by omega) (by omega) _).mono ?_;rintro e w1 ⟨o1,rfl,own1,hb1⟩;have hbk:=hb.keep hb1;have R1:=H1.out.keep hb1;obtain ⟨d0,d1,_,_⟩:=hbk.two;have hs1:=hb1.size;have O1:Hid (OwnR w1 w.heap.size o1 []):=own1;clear own1 H1 c0 c1;go_wp2_with fail;refine wp_loop_rounds 3 ?_;rw [rounds_succ]
 go_wp2_with (at_builtin;refine appRs _ rfl _ _ rfl w.heap.size _ [] rfl O1.out _ l1 rfl R1 (by have:=E1.out;simp;omega) (by omega) ?_;intro v3 w3 own3 hg3)
 have hb3:Below w.heap.size w w3:=Below.grew hb1 hg3 (by omega) (oB O1.out);have hs3:=hb3.size;have R2:=H2.out.keep hb3;have O3:Hid (OwnR w3 w.heap.size v3 l1):=by show OwnR _ _ _ _;simpa using own3
 obtain ⟨f0,f1,_,_⟩:=(hb.keep hb3).two;clear own3 hg3 hbk d0 d1 R1 O1 hb1 H2 hb;rw [rounds_succ]
 go_wp2_with (at_builtin;refine appRs _ rfl _ _ rfl w.heap.size _ l1 rfl O3.out _ l2 rfl R2 (by have:=E1.out;have:=E2.out;omega) (by omega) ?_;intro v5 w5 own5 hg5)
 have hb5:Below w.heap.size w w5:=Below.grew hb3 hg5 (by omega) (oB O3.out);have O5:Hid (OwnR w5 w.heap.size v5 (l1++l2)):=own5;clear own5 hg5 f0 f1 R2 O3 hb3;rw [rounds_succ];go_wp2_with fail
 go_returns
 exact ⟨_,rfl,O5.out,hb5⟩
theorem bothB_no1 {a b:List Rw} (h:rokB a=false):bothB a b=[]:=by simp [bothB,h]
theorem bothB_no2 {a b:List Rw} (h:rokB b=false):bothB a b=[]:=by simp [bothB,h]
theorem bothB_yes {a b:List Rw} (h:rokB a=true) (h':rokB b=true):bothB a b=sumF (a++b):=by simp [bothB,h,h']
theorem both_abs {a b:List Rw} (h:rokB a=true) (h':rokB b=true):absum (a++b)<=79999200:=by
 rw [absum_append];have:=rok_abs h;have:=rok_abs h';omega
theorem both_sp {a b:List Rw} (h:rokB a=true) (h':rokB b=true):∀ r∈a++b,spOk r.1:=fun r hr=>by
 rcases List.mem_append.1 hr with hr|hr
 ·exact rw_sp (rok_at h hr)
 ·exact rw_sp (rok_at h' hr)
theorem implBothB_any (v v':Value) (l l':List Rw) (w:World) (h:Rs w v l) (h':Rs w v' l') :
  Calls Tryz.prog 27 #[v,v'] w fun e w'=>∃ o:Value,e= .returned o/\OwnR w' w.heap.size o (bothB l l')/\Below w.heap.size w w':=by
 cases hk:rokB l
 ·have HF:Hid (bothB l l'=[]):=bothB_no1 hk;go_enter Tryz.func27,Tryz.ntmps27;go_wp2_with fail;refine (iR hk h).mono ?_;rintro e w1 ⟨rfl,hb1⟩;go_wp2_with fail;go_ret;refine ⟨_,rfl,?_,hb1⟩;rw [HF.out];exact oN _ _ _ _ _
 cases hk':rokB l'
 ·have HF:Hid (bothB l l'=[]):=bothB_no2 hk';go_enter Tryz.func27,Tryz.ntmps27;go_wp2_with fail;refine (iR hk h).mono ?_;rintro e w1 ⟨rfl,hb1⟩;have h1':=h'.keep hb1;go_wp2_with fail;refine (iR hk' h1').mono ?_;rintro e w2 ⟨rfl,hb2⟩;go_wp2_with fail;go_ret;refine ⟨_,rfl,?_,bSz hb1 hb2⟩;rw [HF.out];exact oN _ _ _ _ _
 have HF:Hid (bothB l l'=sumF (l++l')):=bothB_yes hk hk';have ha:=both_abs hk hk';have hsp:Hid (∀ r∈l++l',spOk r.1):=both_sp hk hk';have hl:=rLz hk;have hl':=rLz hk';have HH:Hid (Rs w v l):=h;have HH':Hid (Rs w v' l'):=h';obtain ⟨a1,cap1,rfl,-,-,-,-⟩:=h;obtain ⟨a2,cap2,rfl,-,-,-,-⟩:=h';go_enter Tryz.func27,Tryz.ntmps27;go_wp2_with fail;refine (iR hk HH.out).mono ?_;rintro e w1 ⟨rfl,hb1⟩;have h1:=HH.out.keep hb1;have h1':=HH'.out.keep hb1;clear HH HH';go_wp2_with fail;refine (iR hk' h1').mono ?_;rintro e w2 ⟨rfl,hb2⟩;have hbw2:=bSz hb1 hb2;have hb3:Below w2.heap.size w2 (w2.alloc (.cells #[.slice a1 l.length cap1, .slice a2 l'.length cap2] 28)):=bAz (Below.refl _ _) _;have h3:=(h1.keep hb2).keep hb3;have h3':=(h1'.keep hb2).keep hb3;have hbk:=Bk.new (w:=w2) #[.slice a1 l.length cap1, .slice a2 l'.length cap2] 28 rfl;have hs2:=hbw2.size;clear h1 h1' hb1 hb2;go_wp2_with fail;refine (concat_any _ _ _ l l' _ hbk h3 h3' (by omega)).mono ?_;rintro e w4 ⟨o4,rfl,own4,hb4⟩;have hbw4:=bSz (bSz hbw2 hb3) hb4;have R4:=OwnR.rs own4 (by simp;omega);have hs4:=hbw4.size;clear own4 hb4 hbk h3 h3' hb3;go_wp2_with fail;refine (batchOf_any _ (l++l') _ R4 (by simp;omega) (by omega) hsp.out).mono ?_;rintro e w5 ⟨o5,rfl,own5,hb5⟩;have O5:Hid (OwnR w5 w4.heap.size o5 (sumF (l++l'))):=own5;have hbw5:=bSz hbw4 hb5;clear own5;go_wp2_with fail;go_ret;refine ⟨_,rfl,?_,hbw5⟩;rw [HF.out];exact oLz O5.out hs4
theorem nil_eql (a:Option Addr) (n c:Nat) (w:World):(binOp .eql 28 (.slice a n c) (.slice none 0 0)).run Tryz.prog w= .ok (.bool a.isNone) w:=by
 simp [binOp,run_equal_slice_nil w 28 55 a n c Tryz.underlying28]
theorem clone_any (v:Value) (l:List Rw) (w:World) (h:Rs w v l) (hl:l.length<=2000000) :
  Calls Tryz.prog 153 #[v] w fun e w'=>∃ o:Value,e= .returned o/\OwnR w' w.heap.size o l/\Below w.heap.size w w':=by
 have HH:Hid (Rs w v l):=h;obtain ⟨a,cap,rfl,-,-,-,hcells⟩:=h;cases a with
 | none =>
  have h0:l=[]:=by
   cases l with
   | nil=>rfl
   | cons x l=>obtain ⟨g,off,e,_⟩:=hcells 0 x rfl;cases e
  subst h0;clear hcells;have hq:=nil_eql none 0 cap;simp only [Option.isNone_none] at hq;go_enter Tryz.func153,Tryz.ntmps153;go_wp2_with fail;go_ret;exact ⟨_,rfl,oN _ _ _ _ _,Below.refl _ _⟩
 | some ad =>
  clear hcells;have hq:=nil_eql (some ad) l.length cap;simp only [Option.isNone_some] at hq;have O0:=oEz w rfl;have hb0:Below w.heap.size w (w.alloc (.cells #[] 55)):=bAz (Below.refl _ _) _;have R0:=HH.out.keep hb0;go_enter Tryz.func153,Tryz.ntmps153
  go_wp2_with (at_builtin;refine appRs _ rfl _ _ rfl w.heap.size _ [] rfl O0 _ l rfl R0 (by simp;omega) (by simp) ?_;intro v4 w4 own4 hg4)
  have hb4:Below w.heap.size w w4:=Below.grew hb0 hg4 (by simp) (oB O0);have O4:Hid (OwnR w4 w.heap.size v4 l):=by show OwnR _ _ _ _;simpa using own4
  clear own4;go_ret;exact ⟨_,rfl,O4.out,hb4⟩
def mixL (f:Rw->Rw) (l:List Rw) (k:Nat):List Rw:=(l.take k).map f++l.drop k
theorem mix_zero (f:Rw->Rw) (l:List Rw):mixL f l 0=l:=by simp [mixL]
theorem mix_all (f:Rw->Rw) (l:List Rw):mixL f l l.length=l.map f:=by simp [mixL]
theorem mix_at (f:Rw->Rw) {l:List Rw} {k:Nat} {x:Rw} (h:l[k]?=some x):(mixL f l k)[k]?=some x:=by
 have hk:=(List.getElem?_eq_some_iff.1 h).1;unfold mixL;rw [List.getElem?_append_right (by simp;omega)];simp;have:min k l.length=k:=by omega
 rw [this];simpa using h
theorem mix_set (f:Rw->Rw) {l:List Rw} {k:Nat} {x:Rw} (h:l[k]?=some x):(mixL f l k).set k (f x)=mixL f l (k+1):=by
 have hk:=(List.getElem?_eq_some_iff.1 h).1;unfold mixL;rw [tSz h,drop_cons h,List.map_append,List.append_assoc];rw [List.set_append_right _ _ (by simp;omega)];have:k-((l.take k).map f).length=0:=by simp;omega
 rw [this];simp
theorem FillK.diff {c:Array Value} {L:List Rw} {n i:Nat} {s:Sp} {d:Int} (h:FillK rowC 5 c L n) (hi:L[i]?=some (s,d)) (hin:i<n) (hs:i*5+4<c.size) (d':Int) :
  FillK rowC 5 (c.setIfInBounds (i*5+4) (.int .i64 d')) (L.set i (s,d')) n:=by
 intro j x hj hx q hq;have hil:=(List.getElem?_eq_some_iff.1 hi).1;rw [List.getElem?_set] at hx;rw [Array.getElem?_setIfInBounds]
 by_cases e:i=j
 ·subst e;rw [if_pos rfl,if_pos hil] at hx;cases hx;obtain rfl|hq4:q=4\/q<4:=by omega
  ·rw [if_pos rfl,if_pos hs];rfl
  ·rw [if_neg (by omega),h i _ hin hi q hq];obtain rfl|rfl|rfl|rfl:q=0\/q=1\/q=2\/q=3:=by omega
   all_goals rfl
 ·rw [if_neg e] at hx;rw [if_neg (by omega)];exact h j x hj hx q hq
def negR (r:Rw):Rw:=(r.1,-r.2)
theorem negL_map (l:List Rw):negL l=l.map negR:=rfl
theorem less_no {l:List Rw} (h:rokB l=false):lessL l=[]:=by simp [lessL,h]
theorem less_yes {l:List Rw} (h:rokB l=true):lessL l=sumF (negL l):=by simp [lessL,h]
theorem less_len (l:List Rw):(lessL l).length<=400:=by
 unfold lessL;split
 ·exact sumF_len4 _
 ·simp
theorem neg_abs (l:List Rw):absum (negL l)=absum l:=by
 unfold negL
 induction l with
 | nil=>rfl
 | cons r l ih=>simp only [List.map_cons,absum,ih];omega
theorem neg_sp {l:List Rw} (h:rokB l=true):∀ r∈negL l,spOk r.1:=fun r hr=>by
 obtain ⟨q,hq,rfl⟩:=List.mem_map.1 hr;have:spOk q.1:=rw_sp (rok_at h hq);exact this
theorem implLess2_any (v:Value) (l:List Rw) (w:World) (h:Rs w v l) :
  Calls Tryz.prog 84 #[v] w fun e w'=>∃ o:Value,e= .returned o/\OwnR w' w.heap.size o (lessL l)/\Below w.heap.size w w':=by
 cases hk:rokB l
 ·have HF:Hid (lessL l=[]):=less_no hk;go_enter Tryz.func84,Tryz.ntmps84;go_wp2_with fail;refine (iR hk h).mono ?_;rintro e w1 ⟨rfl,hb1⟩;go_wp2_with fail;go_ret;refine ⟨_,rfl,?_,hb1⟩;rw [HF.out];exact oN _ _ _ _ _
 have HF:Hid (lessL l=sumF (negL l)):=less_yes hk;have ha:=rok_abs hk;have hna:=neg_abs l;have hl:=rLz hk;have hsp:Hid (∀ r∈negL l,spOk r.1):=neg_sp hk;have HB:Hid (∀ i s d,l[i]?=some (s,d) -> -99999<=d/\d<=99999):=fun i s d hi=>rw_diff (rok_at hk (List.mem_of_getElem? hi));have hnl:(negL l).length=l.length:=by simp [negL]
 go_enter Tryz.func84,Tryz.ntmps84;go_wp2_with fail;refine (iR hk h).mono ?_;rintro e w1 ⟨rfl,hb1⟩;have h1:=h.keep hb1;have hs1:=hb1.size;clear h;go_wp2_with fail;refine (clone_any _ l _ h1 (by omega)).mono ?_;rintro e w2 ⟨o2,rfl,own2,hb2⟩;have hbw2:=bSz hb1 hb2;have hs2:=hb2.size;clear h1
 rcases ownK_open own2 rowC_len with ⟨rfl,rfl⟩|⟨g,cap,c,rfl,hg,hbk,hcs,hcc,hm,hfill⟩
 ·have R2:Rs w2 (.slice none 0 0) []:=OwnR.rs own2 (by simp);clear own2;go_wp2_with fail;refine wp_loop_rounds 1 ?_;rw [rounds_succ];go_wp2_with fail;refine (batchOf_any _ (negL []) _ R2 (by simp [negL]) (by simp [negL,absum]) hsp.out).mono ?_;rintro e w3 ⟨o3,rfl,own3,hb3⟩;have O3:Hid (OwnR w3 w2.heap.size o3 (sumF (negL []))):=own3;clear own3;go_wp2_with fail;go_ret;refine ⟨_,rfl,?_,bSz hbw2 hb3⟩;rw [HF.out];exact oLz O3.out (by omega)
 ·clear own2;unfold maxLen at hm;have HCS:Hid (c.size=cap*5):=hcs;have HFL:Hid (FillK rowC 5 c l l.length):=hfill;clear hcs hfill;go_wp2_with fail
  go_loopw [12] (fun i wr=>∃ (k:Nat) (c':Array Value),k<=l.length/\i= .int .i64 k/\Bk wr g c' 55/\c'.size=cap*5/\FillK rowC 5 c' (mixL negR l k) l.length/\Bx g w2 wr) (fun i _=>l.length-(intOf i).toNat)
  case atStart=>exact ⟨0,c,by omega,rfl,hbk,HCS.out,by rw [mix_zero];exact HFL.out,Bx.refl _ _⟩
  case round =>
   clear hbk HCS HFL;obtain ⟨k,c',hkl,rfl,hbk,hcs,hfill,hx⟩:=hrel;have HCS:Hid (c'.size=cap*5):=hcs;have HFL:Hid (FillK rowC 5 c' (mixL negR l k) l.length):=hfill
   by_cases hlt:k<l.length
   ·obtain ⟨⟨s,d⟩,hr⟩:∃ r,l[k]?=some r:=⟨_,List.getElem?_eq_getElem hlt⟩;obtain ⟨hd1,hd2⟩:=HB.out k s d hr;have hat:=mix_at negR hr;have hcell:c'[k*5+4]?=some (.int .i64 d):=hfill k (s,d) hlt hat 4 (by omega);have d4:=hbk.cell hcell;have f4:=hbk.free (k*5+4);have HN:Hid (FillK rowC 5 (c'.setIfInBounds (k*5+4) (.int .i64 (-d))) (mixL negR l (k+1)) l.length):=by
     have h1:=FillK.diff hfill hat hlt (by omega) (-d);rw [<- mix_set negR hr];exact h1
    have bk2:=hbk.set (k*5+4) (.int .i64 (-d));have hx2:=hx.setG (p:=⟨g,k*5+4,none⟩) rfl (.int .i64 (-d));clear hcs hfill hr hat hcell;have ik:((k:Int)<(l.length:Int)):=by omega
    go_wp2_with fail;go_roundw
    case rel=>exact ⟨k+1,_,by omega,by go_num,bk2,by simpa using HCS.out,HN.out,hx2⟩
    case measure=>simp [intOf];omega
   ·obtain rfl:k=l.length:=by omega
    have R3:Rs wr (.slice (some ⟨g,0,none⟩) l.length cap) (negL l):=by
     have h1:=HFL.out;rw [mix_all,<-negL_map] at h1;have:=SlK.of_blk (l:=negL l) hbk (by rw [hnl];exact h1) rowC_len (by rw [hnl];exact hcc) (by unfold maxLen;exact hm) (by omega)
     rwa [hnl] at this
    have hb3:Below w.heap.size w wr:=hx.below hbw2 (by omega) (by omega);have hs3:=hb3.size;clear hcs hfill HCS HFL hbk hx;go_wp2_with fail;refine (batchOf_any _ (negL l) _ R3 (by omega) (by omega) hsp.out).mono ?_;rintro e w3 ⟨o3,rfl,own3,hb4⟩;have O3:Hid (OwnR w3 wr.heap.size o3 (sumF (negL l))):=own3;clear own3;go_wp2_with fail;go_ret;refine ⟨_,rfl,?_,bSz hb3 hb4⟩;rw [HF.out];exact oLz O3.out hs3
theorem neg_snoc {l:List Rw} {k:Nat} {s:Sp} {d:Int} (h:l[k]?=some (s,d)):negL (l.take (k+1))=negL (l.take k)++[(s,-d)]:=by
 unfold negL;rw [tSz h,List.map_append];rfl
theorem sumF_nil:sumF []=[]:=by unfold sumF sumL sumA;exact fit_eq bok_nil
theorem specLess2_any (v:Value) (l:List Rw) (w:World) (h:Rs w v l) :
  Calls Tryz.prog 78 #[v] w fun e w'=>∃ o:Value,e= .returned o/\OwnR w' w.heap.size o (lessL l)/\Below w.heap.size w w':=by
 have o0:=oEz w rfl;have hb0:=bAz (Below.refl w.heap.size w) (.cells #[] 55)
 -- what follows the loop
 have fin:∀ (W:World) (o:Value) (L:List Rw),OwnR W w.heap.size o L->L.length<=400->absum L<=99999*400->Below w.heap.size w W ->
   Calls Tryz.prog 77 #[o] W fun e w'=>∃ o':Value,e= .returned o'/\OwnR w' w.heap.size o' (sumL ltS L)/\Below w.heap.size w w':=fun W o L hO hL hA hB=>by
  refine (l2Sum_any o L W (OwnR.rs hO (by omega)) (by omega) (by omega)).mono ?_;rintro e w' ⟨o',he,h1,h2⟩;exact ⟨o',he,oLz h1 hB.size,bSz hB h2⟩
 have FIN:Hid _:=fin;clear fin;cases hk:rokB l
 ·have HF:Hid (lessL l=[]):=less_no hk;have HS:Hid (fitL (sumL ltS [])=[]):=sumF_nil;obtain ⟨a,cap,hv,_,_,_,_⟩:=Rs.open h;have HV:Hid _:=hv
  by_cases hz:l.length=0
  ·subst hv;generalize l.length=n at *;subst hz;go_enter Tryz.func78,Tryz.ntmps78;go_wp2_with fail;refine wp_loop_rounds 1 ?_;rw [rounds_succ];go_wp2_with fail;refine (FIN.out _ _ [] o0 (by simp) (by simp [absum]) hb0).mono ?_;rintro e w2 ⟨o2,rfl,own2,hb2⟩;have hs2:=hb2.size;have O2:Hid (OwnR w2 w.heap.size o2 (sumL ltS [])):=own2;clear own2;go_wp2_with fail;refine (l2Fit_any O2.out (by simp [sumL,sumA]) hs2).mono ?_;rintro e w3 ⟨o3,rfl,own3,hb3⟩;have O3:Hid (OwnR w3 w.heap.size o3 (fitL (sumL ltS []))):=own3;clear own3;go_wp2_with fail;go_ret;refine ⟨_,rfl,?_,bSz hb2 hb3⟩;rw [HF.out,<-HS.out];exact O3.out
  ·have h1:=h.keep hb0;have hpos:decide ((0:Int)<(l.length:Int))=true:=by simp;omega
   subst hv;have HH:Hid (Rs (w.alloc (.cells #[] 55)) (.slice a l.length cap) l):=h1;generalize hn:l.length=n at *;go_enter Tryz.func78,Tryz.ntmps78;go_wp2_with fail;refine wp_loop_rounds 1 ?_;rw [rounds_succ];go_wp2_with fail;refine (sR hk HH.out).mono ?_;rintro e w1 ⟨rfl,hb1⟩;have hbw1:=bSz hb0 hb1;have o1:=oK o0 hb1;go_wp2_with fail;refine (FIN.out _ _ [] o1 (by simp) (by simp [absum]) hbw1).mono ?_;rintro e w2 ⟨o2,rfl,own2,hb2⟩;have hs2:=hb2.size;have O2:Hid (OwnR w2 w.heap.size o2 (sumL ltS [])):=own2;clear own2;go_wp2_with fail;refine (l2Fit_any O2.out (by simp [sumL,sumA]) hs2).mono ?_;rintro e w3 ⟨o3,rfl,own3,hb3⟩;have O3:Hid (OwnR w3 w.heap.size o3 (fitL (sumL ltS []))):=own3;clear own3;go_wp2_with fail;go_ret;refine ⟨_,rfl,?_,bSz hb2 hb3⟩;rw [HF.out,<-HS.out];exact O3.out
 have HF:Hid (lessL l=fitL (sumL ltS (negL l))):=less_yes hk;have ha:=rok_abs hk;have hna:=neg_abs l;have hl:=rLz hk;have hsl:=sumL_len ltS (negL l);have hnl:(negL l).length=l.length:=by simp [negL]
 have HB:Hid (∀ i s d,l[i]?=some (s,d) -> -99999<=d/\d<=99999):=fun i s d hi=>rw_diff (rok_at hk (List.mem_of_getElem? hi));have HH:Hid (Rs w v l):=h;obtain ⟨a,cap,rfl,hc,hm,hn,hcells⟩:=Rs.open h;unfold maxLen at hm;have HC:=(show Hid _ from hcells);clear hcells h;go_enter Tryz.func78,Tryz.ntmps78;go_wp2_with fail
 go_loopw [3,4] (fun o i wr=>∃ k:Nat,k<=l.length/\i= .int .i64 k/\OwnR wr w.heap.size o (negL (l.take k))/\Below w.heap.size w wr) (fun _ i _=>l.length-(intOf i).toNat)
 case atStart=>exact ⟨0,by omega,rfl,o0,hb0⟩
 case round =>
  clear o0 hb0;obtain ⟨k,hkl,rfl,hown,hb⟩:=hrel;have HO:Hid (OwnR wr w.heap.size u3 (negL (l.take k))):=hown;clear hown
  by_cases hlt:k<l.length
  ·obtain ⟨g,off,K,V,A,B,D,rfl,hg,hr,c0,c1,c2,c3,c4⟩:=HC.out k hlt;obtain ⟨hd1,hd2⟩:=HB.out _ _ _ hr;have HZ:=(show Hid _ from neg_snoc hr);have HX:Hid (∀ W,Below w.heap.size w W->W.cell? ⟨g,off+k*5,none⟩=some (.int .i64 K)/\W.cell? ⟨g,off+k*5+1,none⟩=some (.int .i64 V)/\W.cell? ⟨g,off+k*5+2,none⟩=some (.int .i64 A)/\W.cell? ⟨g,off+k*5+3,none⟩=some (.int .i64 B)/\W.cell? ⟨g,off+k*5+4,none⟩=some (.int .i64 D)) :=
    fun W hW=>⟨cB hW c0,cB hW c1,cB hW c2,cB hW c3,cB hW c4⟩
   have hL:(negL (l.take k)).length<=400:=by simp [negL];omega
   have R:=HH.out.keep hb;have ik:decide ((k:Int)<(l.length:Int))=true:=by simp;omega
   clear c0 c1 c2 c3 c4 hr;go_wp2_with fail;refine (sR hk R).mono ?_;rintro e w1 ⟨rfl,hb1⟩;have hbw1:=bSz hb hb1;obtain ⟨x0,x1,x2,x3,x4⟩:=HX.out w1 hbw1;have O1:OwnR w1 w.heap.size u3 (negL (l.take k)):=oK HO.out hb1;have hs1:=hbw1.size;clear HO R hb hb1;generalize negL (l.take k)=L at *
   go_wp2_with (at_builtin;refine appR _ rfl _ _ rfl w.heap.size _ _ rfl ((O1.alloc _).alloc _) _ _ _ _ _ _ rfl (Bk.new _ _ (by simp)) (by omega) (by simp;omega) ?_;intro g3 cap3 w3 own3 hgrow hlg)
   have hb3:Below w.heap.size w w3:=Below.grew (bAz (bAz hbw1 _) _) hgrow (by simp;omega) (oB O1);go_roundw
   case rel =>
    refine ⟨k+1,by omega,by go_num,?_,hb3⟩;rw [HZ.out];exact own3
   case measure=>simp [intOf];omega
  ·obtain rfl:k=l.length:=by omega
   have O1:Hid (OwnR wr w.heap.size u3 (negL l)):=by have:=HO.out;rw [List.take_length] at this;exact this
   clear HO;go_wp2_with fail;refine (FIN.out _ _ (negL l) O1.out (by omega) (by omega) hb).mono ?_;rintro e w2 ⟨o2,rfl,own2,hb2⟩;have hs2:=hb2.size;have O2:Hid (OwnR w2 w.heap.size o2 (sumL ltS (negL l))):=own2;clear own2 O1;go_wp2_with fail;refine (l2Fit_any O2.out (by omega) hs2).mono ?_;rintro e w3 ⟨o3,rfl,own3,hb3⟩;have O3:Hid (OwnR w3 w.heap.size o3 (fitL (sumL ltS (negL l)))):=own3;clear own3;go_wp2_with fail;go_ret;refine ⟨_,rfl,?_,bSz hb2 hb3⟩;rw [HF.out];exact O3.out
theorem implFrontOk_is {l:LI} {r:Bool} (h:fokB l=r) {v:Value} {w:World} (ht:Ts w v l):Calls Tryz.prog 80 #[v] w fun e w'=>e= .returned (.bool r)/\Below w.heap.size w w':=by
 rw [<- h];exact implFrontOk_any v l w ht
end Go.Proofs.YtbdpcngcbnoioaaGreatDoor
