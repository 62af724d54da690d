import Derived.DeepKeys5
import Derived.WideKeyEntry
import Derived.Maps.RangeWalk
import Derived.Test.YtbdpcngcbnoioaaGreatDoorGp1
import Derived.Test.YtbdpcngcbnoioaaGreatDoorSrt
import Derived.Test.YtbdpcngcbnoioaaGreatDoorGb3
set_option maxRecDepth 100000
set_option maxHeartbeats 4000000
namespace Go.Proofs.YtbdpcngcbnoioaaGreatDoor
open Go.RowKit
section
variable {κ:Type} [DecidableEq κ]
theorem tot_nodup {M:List (κ×Int)} (hn:(M.map Prod.fst).Nodup) {r:κ×Int} (hr:r∈M):tot M r.1=r.2:=by
 induction M with
 | nil=>simp at hr
 | cons x M ih =>
  simp only [List.map_cons,List.nodup_cons] at hn;simp only [tot]
  rcases List.mem_cons.1 hr with rfl|hr
  ·rw [if_pos rfl,tot_of_not (fun q hq e=>hn.1 (List.mem_map.2 ⟨q,hq,e⟩))];omega
  ·rw [if_neg (fun e=>hn.1 (List.mem_map.2 ⟨r,hr,e.symm⟩)),ih hn.2 hr];omega
theorem tot_set {M:List (κ×Int)} {j:Nat} {r:κ×Int} (hj:M[j]?=some r) (n:Int) (s:κ):tot (M.set j (r.1,n)) s=tot M s+(if r.1=s then n-r.2 else 0):=by
 induction M generalizing j with
 | nil=>simp at hj
 | cons x M ih =>
  cases j with
  | zero =>
   simp at hj;subst hj;simp only [List.set_cons_zero,tot];split<;>omega
  | succ j =>
   simp only [List.set_cons_succ,tot];rw [ih (by simpa using hj)];omega
end
structure KeyEnc {κ:Type} (k:TypeId) (ek:κ->Value) (ok:κ->Prop):Prop where
 law:WideMaps.KeyLaw Tryz.prog k
 key:∀ s,ok s->∃ l,keyOf Tryz.prog k (ek s)=some l
 inj:∀ s s',ek s=ek s'->s=s'
def MapIs {κ:Type} (ek:κ->Value) (ok:κ->Prop) (w:World) (b:Nat) (M:List (κ×Int)):Prop :=
 ∃ es clock,w.heap[b]?=some (.map es clock)/\MapKept.Stamped es clock/\es.toList.map (fun x=>(x.key,x.val))=M.map (fun p=>(ek p.1,Value.int .i64 p.2))/\∀ p∈M,ok p.1
section
variable {κ:Type} {ek:κ->Value} {ok:κ->Prop} {k e t:TypeId} {w:World} {b:Nat} {M:List (κ×Int)}
theorem MapIs.lt (h:MapIs ek ok w b M):b<w.heap.size:=by
 obtain ⟨es,clock,hb,_⟩:=h;exact lt_of_block hb
theorem MapIs.move {w1:World} (h:MapIs ek ok w b M) (hb:w1.heap[b]?=w.heap[b]?):MapIs ek ok w1 b M:=by
 obtain ⟨es,clock,h1,r⟩:=h;exact ⟨es,clock,by rw [hb];exact h1,r⟩
theorem MapIs.keep {w1:World} (h:MapIs ek ok w b M) (hb:Below w.heap.size w w1):MapIs ek ok w1 b M:=h.move (hb.block b h.lt)
theorem MapIs.new (w:World) (hB:b=w.heap.size):MapIs ek ok (w.alloc (.map #[] 0)) b []:=by
 subst hB;exact ⟨#[],0,heap_alloc_new w _,MapKept.stamped_empty 0,by simp,by simp⟩
theorem mapIs_at {es:Array MapEntry} (hm:es.toList.map (fun x=>(x.key,x.val))=M.map (fun p=>(ek p.1,Value.int .i64 p.2))) {j:Nat} {x:MapEntry} (hx:es.toList[j]?=some x):∃ p,M[j]?=some p/\x.key=ek p.1/\x.val= .int .i64 p.2:=by
 have h:=congrArg (fun l=>l[j]?) hm;simp only [List.getElem?_map,hx,Option.map_some] at h;cases hp:M[j]? with
 | none=>rw [hp] at h;cases h
 | some p =>
  rw [hp] at h;simp only [Option.map_some,Option.some.injEq,Prod.mk.injEq] at h;exact ⟨p,rfl,h.1,h.2⟩
theorem mapIs_keys (K:KeyEnc k ek ok) {es:Array MapEntry} (hm:es.toList.map (fun x=>(x.key,x.val))=M.map (fun p=>(ek p.1,Value.int .i64 p.2))) (ho:∀ p∈M,ok p.1):∀ x∈es.toList,∃ l,keyOf Tryz.prog k x.key=some l:=by
 intro x hx;obtain ⟨j,hj⟩:=List.mem_iff_getElem?.1 hx;obtain ⟨p,hp,h1,_⟩:=mapIs_at hm hj;rw [h1];exact K.key _ (ho p (List.mem_of_getElem? hp))
theorem mapIs_none {es:Array MapEntry} (hm:es.toList.map (fun x=>(x.key,x.val))=M.map (fun p=>(ek p.1,Value.int .i64 p.2))) {s:κ} (h:∀ x∈es.toList,x.key≠ek s):∀ r∈M,r.1≠s:=by
 intro r hr e;obtain ⟨j,hj⟩:=List.mem_iff_getElem?.1 hr;have h':=congrArg (fun l=>l[j]?) hm;simp only [List.getElem?_map,hj,Option.map_some] at h';cases hx:es.toList[j]? with
 | none=>rw [hx] at h';cases h'
 | some x =>
  rw [hx] at h';simp only [Option.map_some,Option.some.injEq,Prod.mk.injEq] at h';exact h x (List.mem_of_getElem? hx) (by rw [h'.1,e])
theorem mapIs_nodup {es:Array MapEntry} {clock:Nat} (hs:MapKept.Stamped es clock) (hm:es.toList.map (fun x=>(x.key,x.val))=M.map (fun p=>(ek p.1,Value.int .i64 p.2))):(M.map Prod.fst).Nodup:=by
 have h1:es.toList.map (·.key)=M.map (fun p=>ek p.1):=by
  have:=congrArg (List.map Prod.fst) hm
  simpa [List.map_map,Function.comp_def] using this
 have h2:=hs.2.2;rw [h1] at h2;have:(M.map fun p=>ek p.1)=(M.map Prod.fst).map ek:=by simp [List.map_map,Function.comp_def]
 rw [this] at h2;exact (List.pairwise_map.1 h2).imp fun h e=>h (by rw [e])
theorem MapIs.look [DecidableEq κ] (h:MapIs ek ok w b M) (K:KeyEnc k ek ok) (ht:Tryz.prog.underlying t=some (.map k e)) (hz:∀ w,(zeroValue e).run Tryz.prog w= .ok (.int .i64 0) w) {s:κ} (hok:ok s) :
  (Instr.lookup t (.map (some b)) (ek s) false).run Tryz.prog w= .ok (.int .i64 (tot M s)) w:=by
 obtain ⟨es,clock,hb,hs,hm,ho⟩:=h;obtain ⟨l,hl⟩:=K.key s hok
 rcases K.law.find w hl es.toList (mapIs_keys K hm ho) with ⟨h1,h2⟩|⟨j,x,h1,h2,h3⟩
 ·rw [tot_of_not (mapIs_none hm h2)];simp [Instr.lookup,run_underlying ht,MapKept.run_getObj_map hb,K.law.check w _ hl,h1,hz,Result.andThen]
 ·obtain ⟨p,hp,e1,e2⟩:=mapIs_at hm h2;have:p.1=s:=K.inj _ _ (by rw [<- e1,h3]);subst this;rw [tot_nodup (mapIs_nodup hs hm) (List.mem_of_getElem? hp),<-e2];simp [Instr.lookup,run_underlying ht,MapKept.run_getObj_map hb,K.law.check w _ hl,h1,Result.andThen]
open Go.ChangeMaps (setBlock) in
theorem MapIs.enter [DecidableEq κ] (h:MapIs ek ok w b M) (K:KeyEnc k ek ok) (ht:Tryz.prog.underlying t=some (.map k e)) (hz:∀ w,(zeroValue e).run Tryz.prog w= .ok (.int .i64 0) w) {s:κ} (hok:ok s) (n:Int) :
  ∃ (st:Nat) (o1 o2:Obj) (M':List (κ×Int)),(Instr.mapEntry t (.map (some b)) (ek s)).run Tryz.prog w= .ok (.tuple #[.int .i64 (tot M s),goInt st]) (setBlock w b o1) /\
   (Instr.lookup t (.map (some b)) (ek s) false).run Tryz.prog (setBlock w b o1)= .ok (.int .i64 (tot M s)) (setBlock w b o1) /\
   (Instr.entryStore t (.map (some b)) (goInt st) (.int .i64 n)).run Tryz.prog (setBlock w b o1)= .ok () (setBlock w b o2) /\
   MapIs ek ok (setBlock w b o2) b M'/\(∀ s',tot M' s'=if s=s' then n else tot M s')/\M'.length<=M.length+1:=by
 have hM:=h;obtain ⟨es,clock,hb,hs,hm,ho⟩:=h;obtain ⟨l,hl⟩:=K.key s hok;have hlt:b<w.heap.size:=lt_of_block hb;have same:∀ o,(setBlock w b o).heap[b]?=some o:=fun o=>by simp [setBlock,hlt]
 have twice:∀ o o',setBlock (setBlock w b o) b o'=setBlock w b o':=fun o o'=>by simp [setBlock]
 have hlen:es.size=M.length:=by have:=congrArg List.length hm;simpa using this
 rcases K.law.find w hl es.toList (mapIs_keys K hm ho) with ⟨h1,h2⟩|⟨j,x,h1,h2,h3⟩
 ·have h0:=mapIs_none hm h2;have t0:tot M s=0:=tot_of_not h0;have m1:MapIs ek ok (setBlock w b (.map (es.push ⟨ek s, .int .i64 0,clock⟩) (clock+1))) b (M++[(s,0)]) :=
   ⟨_,_,same _,MapKept.stamped_push hs h2,by simp [hm],fun p hp=>by
    rcases List.mem_append.1 hp with hp|hp
    ·exact ho p hp
    ·simp at hp;subst hp;exact hok⟩
  refine ⟨clock, .map (es.push ⟨ek s, .int .i64 0,clock⟩) (clock+1), .map (es.push ⟨ek s, .int .i64 n,clock⟩) (clock+1),M++[(s,n)],?_,?_,?_,?_,?_,by simp⟩
  ·rw [t0];simp [Instr.mapEntry,run_underlying ht,MapKept.run_getObj_map hb,K.law.check w false hl,h1,hz,MapKept.run_setObj_map _ hb,Result.andThen,setBlock]
  ·have:=m1.look K ht hz hok;rw [tot_snoc] at this
   simpa using this
  ·have hidx:(es.push ⟨ek s, .int .i64 0,clock⟩).findIdx? (fun e=>((e.born:Nat):Int)==((clock:Nat):Int))=some es.size:=by
    rw [Go.WideElems.findIdx_arr];refine Go.WideElems.findIdx_born (l:=(es.push ⟨ek s, .int .i64 0,clock⟩).toList) (j:=es.size) (e0:=⟨ek s, .int .i64 0,clock⟩) ?_ (by simp);simp only [Array.toList_push,List.map_append,List.map_cons,List.map_nil];refine List.nodup_append.2 ⟨hs.2.1,by simp,fun a ha c hc e1=>?_⟩;simp only [List.mem_singleton] at hc;obtain ⟨x,hx,rfl⟩:=List.mem_map.1 ha;have:=hs.1 x hx;omega
   have hmod:(es.push ⟨ek s, .int .i64 0,clock⟩).modify es.size (fun e=>{ e with val:= .int .i64 n })=es.push ⟨ek s, .int .i64 n,clock⟩:=by
    apply Array.ext'
    rw [Array.toList_modify,Array.toList_push,Array.toList_push,<-Array.length_toList,Go.WideElems.modify_last]
   have hw1:=same (.map (es.push ⟨ek s, .int .i64 0,clock⟩) (clock+1));have htw:=twice (.map (es.push ⟨ek s, .int .i64 0,clock⟩) (clock+1)) (.map (es.push ⟨ek s, .int .i64 n,clock⟩) (clock+1));generalize setBlock w b (.map (es.push ⟨ek s, .int .i64 0,clock⟩) (clock+1))=w1 at hw1 htw ⊢;rw [<- htw];simp [Instr.entryStore,MapKept.run_getObj_map hw1,asInt,asIntOf,goInt,hidx,hmod,MapKept.run_setObj_map _ hw1,Result.andThen,setBlock]
  ·exact ⟨_,_,same _,MapKept.stamped_push hs h2,by simp [hm],fun p hp=>by
    rcases List.mem_append.1 hp with hp|hp
    ·exact ho p hp
    ·simp at hp;subst hp;exact hok⟩
  ·intro s';rw [tot_snoc]
   by_cases e1:s=s'
   ·subst e1;simp [t0]
   ·simp [e1]
 ·obtain ⟨p,hp,e1,e2⟩:=mapIs_at hm h2;have:p.1=s:=K.inj _ _ (by rw [<- e1,h3]);subst this;have hj:es[j]?=some x:=by simpa using h2
  have tp:=tot_nodup (mapIs_nodup hs hm) (List.mem_of_getElem? hp);have hjl:j<es.toList.length:=(List.getElem?_eq_some_iff.1 h2).1;have hsame:es.modify j (fun e=>{ e with key:=ek p.1 })=es:=by
   apply Array.ext'
   rw [Array.toList_modify,Go.ChangeMaps.modify_eq_set _ _ _ _ h2];have:({ x with key:=ek p.1 }:MapEntry)=x:=by rw [<- h3]
   rw [this];exact Go.WideElems.set_self _ _ _ h2
  have hself:setBlock w b (.map es clock)=w:=by
   have hx:w.heap.setIfInBounds b (.map es clock)=w.heap:=by
    apply Array.ext_getElem?
    intro i;rw [Array.getElem?_setIfInBounds]
    by_cases hi:b=i
    ·subst hi;rw [if_pos rfl,if_pos hlt,hb]
    ·rw [if_neg hi]
   simp only [setBlock,hx]
  have hlist:(es.modify j (fun e'=>{ e' with val:= .int .i64 n })).toList=es.toList.set j { x with val:= .int .i64 n }:=by
   rw [Array.toList_modify,Go.ChangeMaps.modify_eq_set _ _ _ _ h2]
  refine ⟨x.born, .map es clock, .map (es.modify j (fun e'=>{ e' with val:= .int .i64 n })) clock,M.set j (p.1,n),?_,?_,?_,?_,?_,by simp⟩
  ·rw [tp,<-e2];simp [Instr.mapEntry,run_underlying ht,MapKept.run_getObj_map hb,K.law.check w false hl,h1,hj,h3,K.law.stays w hl,hsame,MapKept.run_setObj_map _ hb,Result.andThen,setBlock]
  ·rw [hself];exact hM.look K ht hz hok
  ·rw [hself];have hidx:es.findIdx? (fun e=>((e.born:Nat):Int)==((x.born:Nat):Int))=some j:=by
    rw [Go.WideElems.findIdx_arr];exact Go.WideElems.findIdx_born hs.2.1 h2
   simp [Instr.entryStore,MapKept.run_getObj_map hb,asInt,asIntOf,goInt,hidx,MapKept.run_setObj_map _ hb,Result.andThen,setBlock]
  ·refine ⟨_,_,same _,MapKept.stamped_modify hs _ _ (fun _ _=>rfl) (fun _ _ _=>rfl),?_,fun q hq=>?_⟩
   ·rw [hlist,List.map_set,List.map_set,hm,h3]
   ·rcases List.mem_or_eq_of_mem_set hq with hq|rfl
    ·exact ho q hq
    ·exact hok
  ·intro s';rw [tot_set hp]
   by_cases e3:p.1=s'
   ·subst e3;rw [if_pos rfl,if_pos rfl,tp];omega
   ·rw [if_neg e3,if_neg e3];omega
end
open Go.ChangeMaps (setBlock)
theorem strike_idx {L:List MapEntry} (hn:(L.map (·.born)).Nodup) {j:Nat} {e:MapEntry} (h:L[j]?=some e):L.filter (fun x=>!(x.born==e.born))=L.eraseIdx j:=by
 induction L generalizing j with
 | nil=>simp at h
 | cons a l ih =>
  simp only [List.map_cons,List.nodup_cons] at hn;cases j with
  | zero =>
   simp at h;subst h;rw [List.filter_cons];simp only [beq_self_eq_true,Bool.not_true,Bool.false_eq_true,if_false,List.eraseIdx_cons_zero];refine List.filter_eq_self.2 fun x hx=>?_;have:x.born≠a.born:=fun e1=>hn.1 (List.mem_map.2 ⟨x,hx,e1⟩)
   simpa using this
  | succ j =>
   have h':l[j]?=some e:=by simpa using h
   have hne:a.born≠e.born:=fun e1=>hn.1 (List.mem_map.2 ⟨e,List.mem_of_getElem? h',e1.symm⟩);rw [List.filter_cons,if_pos (by simpa using hne),ih hn.2 h',List.eraseIdx_cons_succ]
theorem erase_perm {α:Type} {l:List α} {j:Nat} {x:α} (h:l[j]?=some x):l.Perm (x::l.eraseIdx j):=by
 induction l generalizing j with
 | nil=>simp at h
 | cons a l ih =>
  cases j with
  | zero=>simp at h;subst h;simp
  | succ j =>
   rw [List.eraseIdx_cons_succ];exact ((ih (by simpa using h)).cons a).trans (List.Perm.swap x a _)
theorem left_strike (es:Array MapEntry) (seen:Array Nat) (b:Nat):(leftOf es (seen.push b)).toList=(leftOf es seen).toList.filter (fun x=>!(x.born==b)):=by
 unfold leftOf;rw [Array.toList_filter,Array.toList_filter,List.filter_filter]
 congr 1
 funext x
 rw [Array.contains_push];cases seen.contains x.born<;>cases (x.born==b)<;>rfl
def Ranging {κ:Type} (ek:κ->Value) (ok:κ->Prop) (w:World) (b r:Nat) (M rest:List (κ×Int)):Prop :=
 ∃ es clock seen,w.heap[b]?=some (.map es clock)/\w.heap[r]?=some (.mapIter (some b) clock seen clock)/\MapKept.Stamped es clock/\es.toList.map (fun x=>(x.key,x.val))=M.map (fun p=>(ek p.1,Value.int .i64 p.2)) /\
  (∀ p∈M,ok p.1)/\(leftOf es seen).toList.map (fun x=>(x.key,x.val))=rest.map (fun p=>(ek p.1,Value.int .i64 p.2))/\b≠r
section
variable {κ:Type} {ek:κ->Value} {ok:κ->Prop} {w:World} {b r:Nat} {M rest:List (κ×Int)}
theorem Ranging.move {w1:World} (h:Ranging ek ok w b r M rest) (hb:w1.heap[b]?=w.heap[b]?) (hr:w1.heap[r]?=w.heap[r]?):Ranging ek ok w1 b r M rest:=by
 obtain ⟨es,clock,seen,h1,h2,h3⟩:=h;exact ⟨es,clock,seen,by rw [hb];exact h1,by rw [hr];exact h2,h3⟩
theorem Ranging.lt (h:Ranging ek ok w b r M rest):b<w.heap.size/\r<w.heap.size:=by
 obtain ⟨es,clock,seen,h1,h2,_⟩:=h;exact ⟨lt_of_block h1,lt_of_block h2⟩
theorem Ranging.keep {w1:World} (h:Ranging ek ok w b r M rest) (hb:Below w.heap.size w w1):Ranging ek ok w1 b r M rest:=h.move (hb.block b h.lt.1) (hb.block r h.lt.2)
theorem Ranging.grew {w1:World} {row:Option Nat} (h:Ranging ek ok w b r M rest) (hg:w.grownBy w1 row) (hr:∀ k,row=some k->b≠k/\r≠k):Ranging ek ok w1 b r M rest :=
 h.move (hg.block b h.lt.1 (fun e=>(hr _ e.symm).1 rfl)) (hg.block r h.lt.2 (fun e=>(hr _ e.symm).2 rfl))
theorem Ranging.start {t k e:TypeId} (h:MapIs ek ok w b M) (ht:Tryz.prog.underlying t=some (.map k e)):∃ w',(Instr.range t (.map (some b))).run Tryz.prog w= .ok (.pointer (some ⟨w.heap.size,0,none⟩)) w'/\Ranging ek ok w' b w.heap.size M M/\Below w.heap.size w w'/\w'.heap.size=w.heap.size+1:=by
 have hlt:=h.lt;obtain ⟨es,clock,hb,hs,hm,ho⟩:=h;refine ⟨w.alloc (.mapIter (some b) clock #[] clock),?_,⟨es,clock,#[],?_,heap_alloc_new w _,hs,hm,ho,?_,by omega⟩,bAz (Below.refl _ _) _,by simp⟩
 ·simp [Instr.range,run_underlying ht,MapKept.run_getObj_map hb,Result.andThen,newObj,Sem.run]
 ·rw [Below.heap_alloc _ _ _ hlt];exact hb
 ·have:(leftOf es #[]).toList=es.toList:=by unfold leftOf;simp
  rw [this];exact hm
theorem Ranging.next (h:Ranging ek ok w b r M rest) (ty:TypeId) :
  (rest=[]/\(Instr.next (.pointer (some ⟨r,0,none⟩)) false ty).run Tryz.prog w= .ok (.tuple #[.bool false]) w) \/
  ∃ (p:κ×Int) (rest':List (κ×Int)) (w':World),rest.Perm (p::rest')/\(Instr.next (.pointer (some ⟨r,0,none⟩)) false ty).run Tryz.prog w= .ok (.tuple #[.bool true,ek p.1, .int .i64 p.2]) w'/\Ranging ek ok w' b r M rest' /\
   (Instr.entry (.pointer (some ⟨r,0,none⟩))).run Tryz.prog w'= .ok (.tuple #[ek p.1, .int .i64 p.2]) w'/\Bx r w w'/\w'.heap.size=w.heap.size/\rest'.length+1=rest.length:=by
 obtain ⟨es,clock,seen,h1,h2,hs,hm,ho,hl,hbr⟩:=h
 rcases run_next_at (P:=Tryz.prog) w ty r b clock clock seen es clock h2 h1 hs.1 (Nat.le_refl _) with ⟨h0,hrun⟩|⟨x,hx,w1,hw1,hrun⟩
 ·left
  refine ⟨?_,hrun⟩;have:(leftOf es seen).toList=[]:=List.eq_nil_of_length_eq_zero (by simpa using h0);rw [this] at hl;exact List.map_eq_nil_iff.1 hl.symm
 ·right
  obtain ⟨j,hj⟩:=List.mem_iff_getElem?.1 hx;obtain ⟨p,hp,e1,e2⟩:∃ p,rest[j]?=some p/\x.key=ek p.1/\x.val= .int .i64 p.2:=by
   have h':=congrArg (fun l=>l[j]?) hl;simp only [List.getElem?_map,hj,Option.map_some] at h';cases hp:rest[j]? with
   | none=>rw [hp] at h';cases h'
   | some p =>
    rw [hp] at h';simp only [Option.map_some,Option.some.injEq,Prod.mk.injEq] at h';exact ⟨p,rfl,h'.1,h'.2⟩
  have hxe:x∈es.toList:=by
   unfold leftOf at hx;rw [Array.toList_filter] at hx;exact (List.mem_filter.1 hx).1
  have hjl:=(List.getElem?_eq_some_iff.1 hp);obtain ⟨hjl1,_⟩:=hjl;have hnl:((leftOf es seen).toList.map (·.born)).Nodup:=by
   unfold leftOf;rw [Array.toList_filter];exact hs.2.1.sublist ((List.filter_sublist (l:=es.toList)).map _)
  rw [e1,e2] at hrun;have hw:Bx r w w1/\w1.heap=w.heap:=by
   rcases hw1 with rfl|rfl
   ·exact ⟨Bx.refl _ _,rfl⟩
   ·exact ⟨(Bx.refl _ _).drew,rfl⟩
  have hr1:r<w1.heap.size:=by rw [hw.2];exact lt_of_block h2
  have hB:Bx r w (setBlock w1 r (.mapIter (some b) clock (seen.push x.born) clock)):=by
   refine ⟨hw.1.os,hw.1.tape,hw.1.output,by simp [setBlock,hw.2],fun k hk hne=>?_⟩;simp only [setBlock,Array.getElem?_setIfInBounds];rw [if_neg (fun e=>hne e.symm),hw.2]
  have hat:(setBlock w1 r (.mapIter (some b) clock (seen.push x.born) clock)).heap[r]?=some (.mapIter (some b) clock (seen.push x.born) clock):=by simp [setBlock,hr1]
  have hmb:(setBlock w1 r (.mapIter (some b) clock (seen.push x.born) clock)).heap[b]?=some (.map es clock):=by rw [hB.block b (lt_of_block h1) hbr];exact h1
  refine ⟨p,rest.eraseIdx j,_,?_,hrun,⟨es,clock,seen.push x.born,hmb,hat,hs,hm,ho,?_,hbr⟩,?_,hB,by simp [setBlock,hw.2],?_⟩
  ·exact erase_perm hp
  ·rw [left_strike,strike_idx hnl hj,Go.ChangeMaps.map_eraseIdx,Go.ChangeMaps.map_eraseIdx,hl]
  ·have:=run_entry_at (P:=Tryz.prog) _ r b clock seen es clock x hat hmb hxe hs.2.1;rw [e1,e2] at this;exact this
  ·rw [List.length_eraseIdx_of_lt hjl1];omega
end
def fit63 (n:Int):Prop := -4611686018427387904<=n/\n<=4611686018427387904
theorem wf63 {n:Int} (h:fit63 n):(Lit.int .i64 n).wf=true:=by
 obtain ⟨h1,h2⟩:=h;have e1:IntKind.i64.min = -9223372036854775808:=by decide
 have e2:IntKind.i64.max=9223372036854775807:=by decide
 simp only [Lit.wf,e1,e2];simp;omega
abbrev spV (s:Sp):Value:= .agg #[.int .i64 s.1.1, .int .i64 s.1.2, .int .i64 s.2.1, .int .i64 s.2.2]
abbrev thV (s:Int×Int):Value:= .agg #[.int .i64 s.1, .int .i64 s.2]
def spOk (s:Sp):Prop:=fit63 s.1.1/\fit63 s.1.2/\fit63 s.2.1/\fit63 s.2.2
def thOk (s:Int×Int):Prop:=fit63 s.1/\fit63 s.2
theorem sizeT:∃ m,Tryz.prog.types.size=m+3:=⟨Tryz.prog.types.size-3,by kernel_rfl⟩
theorem lawS:WideMaps.KeyLaw Tryz.prog 233:=deep_law_laid pfLaid (m:=6) (by omega) (of_decide_eq_true (by kernel_rfl)) (by kernel_rfl) (by kernel_rfl)
theorem lawT:WideMaps.KeyLaw Tryz.prog 131:=deep_law_laid pfLaid (m:=6) (by omega) (of_decide_eq_true (by kernel_rfl)) (by kernel_rfl) (by kernel_rfl)
theorem litI (D:Nat) {n:Int} (h:(Lit.int .i64 n).wf=true):Tryz.prog.keyLits (D+1) 3 [.int .i64 n]=some [.int .i64 n]:=by
 simp [Program.keyLits,Tryz.underlying3,h]
theorem litT (D:Nat) {a b:Int} (ha:(Lit.int .i64 a).wf=true) (hb:(Lit.int .i64 b).wf=true):Tryz.prog.keyLits (D+2) 32 [.int .i64 a, .int .i64 b]=some [.int .i64 a, .int .i64 b]:=by
 have c2:Tryz.prog.cellsOf 32=2:=by kernel_rfl
 have c3:Tryz.prog.cellsOf 3=1:=by kernel_rfl
 unfold Program.keyLits;rw [Tryz.underlying32];simp only;rw [if_pos ⟨c2.symm,by kernel_rfl⟩];simp [c3,litI _ ha,litI _ hb]
theorem keyS (s:Sp) (h:spOk s):∃ l,keyOf Tryz.prog 233 (spV s)=some l:=by
 obtain ⟨h0,h1,h2,h3⟩:=h;have w0:=wf63 h0;have w1:=wf63 h1;have w2:=wf63 h2;have w3:=wf63 h3;have hk:Tryz.prog.keyType 233=true:=by kernel_rfl
 have c1:Tryz.prog.cellsOf 233=4:=by kernel_rfl
 have c2:Tryz.prog.cellsOf 32=2:=by kernel_rfl
 have c3:Tryz.prog.cellsOf 3=1:=by kernel_rfl
 obtain ⟨m,hm⟩:=sizeT;unfold keyOf;rw [Tryz.underlying233];simp only [hk,Bool.true_and];have hf:(spV s).formed Tryz.prog 233=true:=by
  simp [Value.formed,Tryz.underlying233,c1]
 rw [hf,if_pos rfl,hm];unfold Program.keyLits;rw [Tryz.underlying233];simp only;rw [if_pos ⟨by rw [c1];simp [Value.cells],by kernel_rfl⟩];simp [c2,c3,Value.cells,litI _ w0,litI _ w1,litT _ w2 w3]
theorem keyT (s:Int×Int) (h:thOk s):∃ l,keyOf Tryz.prog 131 (thV s)=some l:=by
 obtain ⟨h0,h1⟩:=h;have w0:=wf63 h0;have w1:=wf63 h1;have hk:Tryz.prog.keyType 131=true:=by kernel_rfl
 have c1:Tryz.prog.cellsOf 131=2:=by kernel_rfl
 have c3:Tryz.prog.cellsOf 3=1:=by kernel_rfl
 obtain ⟨m,hm⟩:=sizeT;unfold keyOf;rw [Tryz.underlying131];simp only [hk,Bool.true_and];have hf:(thV s).formed Tryz.prog 131=true:=by
  simp [Value.formed,Tryz.underlying131,c1]
 rw [hf,if_pos rfl,hm];unfold Program.keyLits;rw [Tryz.underlying131];simp only;rw [if_pos ⟨by rw [c1];simp [Value.cells],by kernel_rfl⟩];simp [c3,Value.cells,litI _ w0,litI _ w1]
theorem encS:KeyEnc 233 spV spOk:=⟨lawS,keyS,fun s s' h=>by
 simp at h;exact Prod.ext (Prod.ext h.1 h.2.1) (Prod.ext h.2.2.1 h.2.2.2)⟩
theorem encT:KeyEnc 131 thV thOk:=⟨lawT,keyT,fun s s' h=>by
 simp at h;exact Prod.ext h.1 h.2⟩
open Go.ChangeMaps (setBlock)
theorem below_setBlock {B:Nat} {w W:World} {b:Nat} {o:Obj} (h:Below B w W) (hb:B<=b):Below B w (setBlock W b o):=by
 refine ⟨h.os,h.tape,h.output,by simp [setBlock,h.size],fun k hk=>?_⟩;simp only [setBlock,Array.getElem?_setIfInBounds];rw [if_neg (by omega)];exact h.block k hk
theorem size_setBlock (W:World) (b:Nat) (o:Obj):(setBlock W b o).heap.size=W.heap.size:=by simp [setBlock]
def leftN (w:World) (b r:Nat):Nat :=
 match w.heap[b]?,w.heap[r]? with
 | some (.map es _),some (.mapIter _ _ seen _)=>(leftOf es seen).size
 | _,_=>0
section
variable {κ:Type} {ek:κ->Value} {ok:κ->Prop} {w:World} {b r:Nat} {M left:List (κ×Int)}
theorem Ranging.count (h:Ranging ek ok w b r M left):leftN w b r=left.length:=by
 obtain ⟨es,clock,seen,h1,h2,_,_,_,hl,_⟩:=h;unfold leftN;rw [h1,h2];have:=congrArg List.length hl
 simpa using this
theorem Ranging.nodup (h:Ranging ek ok w b r M left):(M.map Prod.fst).Nodup:=by
 obtain ⟨es,clock,seen,_,_,hs,hm,_⟩:=h;exact mapIs_nodup hs hm
variable {ops:Array Oper} {rest:List Oper} {o:Oper} {a:Act} {Q:Exit->Act->World->Prop}
theorem wp_range (w:World) (hg:o.guard=none) (m:Operand) (t:TypeId) (hop:o.op=Op.range t m) (k e:TypeId) (ht:Tryz.prog.underlying t=some (.map k e)) (b:Nat) (M:List (κ×Int)) (hm:a.eval m= .map (some b)) (h:MapIs ek ok w b M)
  (hK:∀ w',Ranging ek ok w' b w.heap.size M M->Below w.heap.size w w'->w'.heap.size=w.heap.size+1->wpList Tryz.prog ops Q rest (a.put o.dst (.pointer (some ⟨w.heap.size,0,none⟩))) w'):wpList Tryz.prog ops Q (o::rest) a w:=by
 refine wpList_plain hg fun K' hK'=>?_;obtain ⟨w',hrun,r1,r2,r3⟩:=Ranging.start h ht;unfold Oper.wp;simp [execOp,hop,hm,hrun,Result.andThen];exact hK' _ _ (hK w' r1 r2 r3)
theorem wp_next (w:World) (hg:o.guard=none) (it:Operand) (hop:o.op=Op.next it false) (b r:Nat) (M left:List (κ×Int)) (hit:a.eval it= .pointer (some ⟨r,0,none⟩)) (h:Ranging ek ok w b r M left)
  (hDone:left=[]->wpList Tryz.prog ops Q rest (a.put o.dst (.tuple #[.bool false])) w)
  (hMore:∀ (p:κ×Int) (left':List (κ×Int)) (w':World),left.Perm (p::left')->Ranging ek ok w' b r M left'->(Instr.entry (.pointer (some ⟨r,0,none⟩))).run Tryz.prog w'= .ok (.tuple #[ek p.1, .int .i64 p.2]) w'->Bx r w w'->w'.heap.size=w.heap.size->left'.length+1=left.length ->
   wpList Tryz.prog ops Q rest (a.put o.dst (.tuple #[.bool true,ek p.1, .int .i64 p.2])) w'):wpList Tryz.prog ops Q (o::rest) a w:=by
 refine wpList_plain hg fun K' hK'=>?_;unfold Oper.wp
 rcases h.next o.type with ⟨h0,hrun⟩|⟨p,left',w',hp,hrun,hr,hen,hx,hs,hl⟩
 ·simp [execOp,hop,hit,hrun,Result.andThen];exact hK' _ _ (hDone h0)
 ·simp [execOp,hop,hit,hrun,Result.andThen];exact hK' _ _ (hMore p left' w' hp hr hen hx hs hl)
end
section
variable {K:Type} {lt:K->K->Bool}
theorem collected [DecidableEq K] (O:Ord lt) {l M L l':List (K×Int)} (hn:(M.map Prod.fst).Nodup) (ht:∀ s,tot M s=tot l s) (hL:L.Perm (M.filter fun r=>decide (r.2≠0))) (hp:l'.Perm L) (hs:l'.Pairwise (fun p q=>lt q.1 p.1=false)):l'=sumL lt l:=by
 have hp':=hp.trans hL;have hnod:(l'.map Prod.fst).Nodup:=(hp'.map Prod.fst).nodup_iff.2 (hn.sublist ((List.filter_sublist (l:=M)).map _));refine sumL_uniq O ?_ ?_ fun s=>?_
 ·have h1:l'.Pairwise fun p q=>p.1≠q.1:=List.pairwise_map.1 hnod;refine (List.Pairwise.and hs h1).imp fun {a b} ⟨h2,h3⟩=>?_;cases e:lt a.1 b.1
  ·exact absurd (O.tri _ _ e h2) h3
  ·rfl
 ·intro r hr;have:=(List.mem_filter.1 (hp'.mem_iff.1 hr)).2
  simpa using this
 ·rw [tot_perm hp',filter_nz_tot,ht]
theorem collect_yes {M done left left' L:List (K×Int)} {p:K×Int} (h:M.Perm (done++left)) (hp:left.Perm (p::left')) (hL:L.Perm (done.filter fun r=>decide (r.2≠0))) (h0:p.2≠0) :
  M.Perm ((done++[p])++left')/\(L++[p]).Perm ((done++[p]).filter fun r=>decide (r.2≠0)):=by
 constructor
 ·rw [List.append_assoc];exact h.trans (hp.append_left done)
 ·rw [List.filter_append];have:[p].filter (fun r=>decide (r.2≠0))=[p]:=by simp [h0]
  rw [this];exact hL.append_right _
theorem collect_no {M done left left' L:List (K×Int)} {p:K×Int} (h:M.Perm (done++left)) (hp:left.Perm (p::left')) (hL:L.Perm (done.filter fun r=>decide (r.2≠0))) (h0:p.2=0) :
  M.Perm ((done++[p])++left')/\L.Perm ((done++[p]).filter fun r=>decide (r.2≠0)):=by
 constructor
 ·rw [List.append_assoc];exact h.trans (hp.append_left done)
 ·rw [List.filter_append];have:[p].filter (fun r=>decide (r.2≠0))=[]:=by simp [h0]
  rw [this,List.append_nil];exact hL
end
theorem len64_0 (w:World):Calls Tryz.prog 214 #[.int .u64 0] w fun e w'=>(∃ r:Int,e= .returned (.int .i64 r))/\w'=w:=by
 go_enter Tryz.func214,Tryz.ntmps214;go_wp2_with fail;go_ret;exact ⟨⟨_,rfl⟩,rfl⟩
theorem len_0 (w:World):Calls Tryz.prog 166 #[.int .u64 0] w fun e w'=>(∃ r:Int,e= .returned (.int .i64 r))/\w'=w:=by
 go_enter Tryz.func166,Tryz.ntmps166
 go_wp2_with (go_at_call 214;refine (len64_0 _).mono ?_;rintro e w' ⟨⟨r,rfl⟩,rfl⟩)
 go_ret;exact ⟨⟨_,rfl⟩,rfl⟩
theorem insertRow_0 (fv:Value) (w:World) :
  Calls Tryz.prog 270 #[.slice none 0 0, .int .i64 0, .int .i64 0,fv] w fun e w'=>e= .returned (.tuple #[])/\w'=w:=by
 go_enter Tryz.func270,Tryz.ntmps270;go_wp2_with fail;refine wp_loop_rounds 1 ?_;rw [rounds_succ];go_wp2_with fail
 go_end0
 exact ⟨rfl,rfl⟩
theorem pdqRow_0 (r:Int) (fv:Value) (w:World) :
  Calls Tryz.prog 259 #[.slice none 0 0, .int .i64 0, .int .i64 0, .int .i64 r,fv] w fun e w'=>e= .returned (.tuple #[])/\w'=w:=by
 go_enter Tryz.func259,Tryz.ntmps259;go_wp2_with fail;refine wp_loop_rounds 1 ?_;rw [rounds_succ];go_wp2_with fail;refine (insertRow_0 _ _).mono ?_;rintro e w1 ⟨rfl,rfl⟩;go_wp2_with fail
 (try simp only [Exit.inBlock,Exit.then])
 refine bodyPost_ret (results_none rfl _ _ _) rfl ?_;exact ⟨rfl,rfl⟩
theorem sortRow_0 (fv:Value) (w:World):Calls Tryz.prog 238 #[.slice none 0 0,fv] w fun e w'=>e= .returned (.tuple #[])/\w'=w:=by
 go_enter Tryz.func238,Tryz.ntmps238
 go_wp2_with (first|(go_at_call 166;refine (len_0 _).mono ?_;rintro e w' ⟨⟨r,rfl⟩,rfl⟩)|(go_at_call 259;refine (pdqRow_0 _ _ _).mono ?_;rintro e w1 ⟨rfl,rfl⟩))
 go_end0
 exact ⟨rfl,rfl⟩
theorem insertItem_0 (fv:Value) (w:World) :
  Calls Tryz.prog 247 #[.slice none 0 0, .int .i64 0, .int .i64 0,fv] w fun e w'=>e= .returned (.tuple #[])/\w'=w:=by
 go_enter Tryz.func247,Tryz.ntmps247;go_wp2_with fail;refine wp_loop_rounds 1 ?_;rw [rounds_succ];go_wp2_with fail
 go_end0
 exact ⟨rfl,rfl⟩
theorem pdqItem_0 (r:Int) (fv:Value) (w:World) :
  Calls Tryz.prog 227 #[.slice none 0 0, .int .i64 0, .int .i64 0, .int .i64 r,fv] w fun e w'=>e= .returned (.tuple #[])/\w'=w:=by
 go_enter Tryz.func227,Tryz.ntmps227;go_wp2_with fail;refine wp_loop_rounds 1 ?_;rw [rounds_succ];go_wp2_with fail;refine (insertItem_0 _ _).mono ?_;rintro e w1 ⟨rfl,rfl⟩;go_wp2_with fail
 (try simp only [Exit.inBlock,Exit.then])
 refine bodyPost_ret (results_none rfl _ _ _) rfl ?_;exact ⟨rfl,rfl⟩
theorem sortItem_0 (fv:Value) (w:World):Calls Tryz.prog 177 #[.slice none 0 0,fv] w fun e w'=>e= .returned (.tuple #[])/\w'=w:=by
 go_enter Tryz.func177,Tryz.ntmps177
 go_wp2_with (first|(go_at_call 166;refine (len_0 _).mono ?_;rintro e w' ⟨⟨r,rfl⟩,rfl⟩)|(go_at_call 227;refine (pdqItem_0 _ _ _).mono ?_;rintro e w1 ⟨rfl,rfl⟩))
 go_end0
 exact ⟨rfl,rfl⟩
open Go.Shelf Go.Lib
section
variable {α:Type} [Inhabited α]
theorem flatK_get {enc:α->List Value} {k:Nat} (hk:∀ x,(enc x).length=k) {l:List α} {i:Nat} {x:α} (h:l[i]?=some x) {j:Nat} (hj:j<k):(Sort.flatK enc k l.toArray)[i*k+j]?=(enc x)[j]?:=by
 have hi:=(List.getElem?_eq_some_iff.1 h).1;have hlt:i*k+j<l.toArray.size*k:=by
  have:(i+1)*k<=l.length*k:=Nat.mul_le_mul_right k hi;rw [Nat.add_mul] at this;simp;omega
 have e1:(i*k+j) / k=i:=by
  rw [Nat.mul_comm,Nat.mul_add_div (by omega),Nat.div_eq_of_lt hj,Nat.add_zero]
 have e2:(i*k+j)%k=j:=by
  rw [Nat.mul_comm,Nat.mul_add_mod,Nat.mod_eq_of_lt hj]
 have hx:l.toArray[i]! = x:=by
  rw [getElem!_pos l.toArray i (by simpa using hi)]
  simpa using (List.getElem?_eq_some_iff.1 h).2
 simp only [Sort.flatK,Array.getElem?_map];rw [Array.getElem?_range,if_pos hlt,Option.map_some,e1,e2,hx];rw [getElem!_pos (enc x) j (by rw [hk];exact hj),List.getElem?_eq_getElem (by rw [hk];exact hj)]
theorem holdsK_of_fill {enc:α->List Value} {k:Nat} {w:World} {g:Nat} {c:Array Value} {t:TypeId} {l:List α} (hk:∀ x,(enc x).length=k) (h:Bk w g c t) (hf:FillK enc k c l l.length):Sort.HoldsK enc k w g 0 l.toArray:=by
 intro j hj;rw [Sort.size_flatK] at hj;have hj':j<l.length*k:=by simpa using hj
 have hk0:0<k:=by
  rcases Nat.eq_zero_or_pos k with e|e
  ·subst e;omega
  ·exact e
 have e:j=j / k*k+j%k:=by rw [Nat.mul_comm];exact (Nat.div_add_mod j k).symm
 have hq:j / k<l.length:=Nat.div_lt_of_lt_mul (by rw [Nat.mul_comm];exact hj');have hr:j%k<k:=Nat.mod_lt _ hk0;have h1:=hf _ _ hq (List.getElem?_eq_getElem hq) _ hr;have h2:=flatK_get hk (List.getElem?_eq_getElem hq) hr;rw [<- e] at h1 h2;refine ⟨?_,h.free _⟩;rw [Nat.zero_add];have hs:j<(Sort.flatK enc k l.toArray).size:=by rw [Sort.size_flatK];exact hj
 have h3:(Sort.flatK enc k l.toArray)[j]?=some ((Sort.flatK enc k l.toArray)[j]!):=by rw [getElem!_pos _ j hs,Array.getElem?_eq_getElem hs]
 rw [h2] at h3;exact h.cell (h1.trans h3)
theorem fill_of_put {enc:α->List Value} {k:Nat} (hk:∀ x,(enc x).length=k) {c:Array Value} {l l':List α} (hl:l'.length=l.length) (hf:l.length*k<=c.size):FillK enc k (Sort.putCells id 0 (Sort.flatK enc k l'.toArray) c) l' l'.length:=by
 intro i x hi hx j hj;have hlt:i*k+j<l'.length*k:=by
  have:(i+1)*k<=l'.length*k:=Nat.mul_le_mul_right k hi;rw [Nat.add_mul] at this;omega
 have hc:i*k+j<c.size:=by rw [hl] at hlt;omega
 have h2:=flatK_get hk hx hj;have hs:i*k+j<(Sort.flatK enc k l'.toArray).size:=by rw [Sort.size_flatK];simpa using hlt
 rw [<- h2];unfold Sort.putCells;rw [Array.getElem?_mapIdx,Array.getElem?_eq_getElem hc,Option.map_some,if_pos ⟨by omega,by omega⟩,Nat.sub_zero]
 show some ((Sort.flatK enc k l'.toArray)[i*k+j]!)=_
 rw [getElem!_pos (Sort.flatK enc k l'.toArray) (i*k+j) hs,Array.getElem?_eq_getElem hs]
theorem sort_own {enc:α->List Value} {k:Nat} {t:TypeId} {w:World} {B:Nat} {v:Value} {l:List α} (ρ:Ren) (L:SlLaysF0.n6 Tryz.prog ρ) (hk:∀ x,(enc x).length=k) (h1:∀ x,∀ u∈enc x,u.oneCell'=true)
  (aE:∀ w,(isAgg (ρ.t 24)).run Tryz.prog w= .ok true w) (zE:∀ w,(Go.sizeOf (ρ.t 24)).run Tryz.prog w= .ok k w) (cf:α->α->Int) (hO:Sort.SWO (ltOf cf)) (g:Nat) (eg:∀ args w,(callFunc g args).run Tryz.prog w= .ok (.enter g args) w)
  (hcmp:∀ (x y:α) (W:World),Calls Tryz.prog g #[.agg (enc x).toArray, .agg (enc y).toArray] W fun e w'=>e= .returned (.int .i64 (cf x y))/\∃ q os',w'=Sort.grow (W.drewN q) os')
  (hnone:Calls Tryz.prog (ρ.f 6) #[.slice none 0 0, .func (.func g) #[] #[]] w fun e w'=>e= .returned (.tuple #[])/\w'=w) (h:OwnK enc k t w B v l) (hl:l.length<=2097152) (hB:B<=w.heap.size) :
  Calls Tryz.prog (ρ.f 6) #[v, .func (.func g) #[] #[]] w fun e w'=>e= .returned (.tuple #[])/\∃ l':List α,l'.Perm l/\l'.Pairwise (fun p q=>ltOf cf q p=false)/\OwnK enc k t w' B v l'/\Below B w w':=by
 rcases ownK_open h hk with ⟨rfl,rfl⟩|⟨b,cap,c,rfl,hg,hb,hs,hc,hm,hfill⟩
 ·refine hnone.mono ?_;rintro e w' ⟨rfl,rfl⟩;exact ⟨rfl,[],List.Perm.refl _,by simp,h,Below.refl _ _⟩
 ·have hH:=holdsK_of_fill hk hb hfill;have hcon:=AnyQ.slices_SortFunc L k aE zE enc hk h1 cf hO g #[] b 0 cap l.toArray w eg (fun m os dk _ x y=>by simpa using hcmp x y _) hH hb.lt (by simp;omega);have hsz:l.toArray.size=l.length:=by simp
  rw [hsz] at hcon;refine hcon.mono ?_;rintro e w' ⟨rfl,d',n,os,hp,hsrt,rfl⟩;obtain ⟨p1,_,p3⟩:=hp;have hd:d'.size=l.length:=by rw [p1];simp
  have hx:d'.extract 0 l.length=d':=by rw [<- hd];simp
  have hperm:d'.toList.Perm l:=by
   rw [hx] at p3
   simpa using p3
  have hlen:d'.toList.length=l.length:=by simpa using hd
  have hblt:=hb.lt;have hblk:(sortWorldK enc k w b 0 n d' os).heap[b]?=some (.cells (Sort.putCells id 0 (Sort.flatK enc k d') c) t (0,0)):=by
   have hbb:w.heap[b]?=some (.cells c t (0,0)):=hb;have hlt2:b<(Sort.putRowK enc k (Sort.ahead w n) b 0 d').heap.size:=by
    simp only [Sort.putRowK,Sort.putRow,Sort.mapBlock];simpa [Sort.ahead] using hblt
   show ((Sort.putRowK enc k (Sort.ahead w n) b 0 d').heap++os)[b]?=_
   rw [Array.getElem?_append_left hlt2];simp only [Sort.putRowK,Sort.putRow,Sort.mapBlock,Sort.ahead,Array.getElem?_modify,if_pos,hbb,Option.map_some]
   rfl
  have hcs:(Sort.putCells id 0 (Sort.flatK enc k d') c).size=cap*k:=by simp [Sort.putCells,hs]
  have hfl:FillK enc k (Sort.putCells id 0 (Sort.flatK enc k d') c) d'.toList d'.toList.length:=by
   have:=fill_of_put hk (c:=c) (l:=l) (l':=d'.toList) hlen (by rw [hs];exact Nat.mul_le_mul_right k hc)
   simpa using this
  have hown:=ownK_of_fill (enc:=enc) (B:=B) (w:=sortWorldK enc k w b 0 n d' os) hblk hfl hk hcs (by rw [hlen];exact hc) hm hg;refine ⟨rfl,d'.toList,hperm,?_,by rw [hlen] at hown;simpa only [hlen] using hown,?_⟩
  ·refine List.pairwise_iff_getElem.2 fun i j hi hj hij=>?_;have:=hsrt i j (by omega) hij (by omega);rw [getElem!_pos d' i (by simpa using hi),getElem!_pos d' j (by simpa using hj)] at this
   simpa using this
  ·refine ⟨rfl,rfl,rfl,?_,fun q hq=>?_⟩
   ·show w.heap.size<=((Sort.putRowK enc k (Sort.ahead w n) b 0 d').heap++os).size
    simp only [Sort.putRowK,Sort.putRow,Sort.mapBlock,Sort.ahead];simp
   ·show ((Sort.putRowK enc k (Sort.ahead w n) b 0 d').heap++os)[q]?=_
    have hq2:q<(Sort.putRowK enc k (Sort.ahead w n) b 0 d').heap.size:=by
     simp only [Sort.putRowK,Sort.putRow,Sort.mapBlock,Sort.ahead];simp;omega
    rw [Array.getElem?_append_left hq2];simp only [Sort.putRowK,Sort.putRow,Sort.mapBlock,Sort.ahead,Array.getElem?_modify];rw [if_neg (by omega)]
end
theorem swo_of {α K:Type} {lt:K->K->Bool} [DecidableEq K] (O:Ord lt) (key:α->K) {cf:α->α->Int} (h:∀ x y,ltOf cf x y=lt (key x) (key y)):Sort.SWO (ltOf cf) where
 irrefl x:=by rw [h];exact O.irr _
 trans x y z h1 h2:=by rw [h] at *;exact O.trans _ _ _ h1 h2
 ntrans x y z h1 h2:=by
  rw [h] at *;cases e:lt (key x) (key z)
  ·rfl
  ·by_cases exy:key x=key y
   ·rw [<- exy] at h2;rw [e] at h2;cases h2
   ·have hyx:lt (key y) (key x)=true:=by
     cases e2:lt (key y) (key x)
     ·exact absurd (O.tri _ _ h1 e2) exy
     ·rfl
    have:=O.trans _ _ _ hyx e;rw [this] at h2;cases h2
theorem sortR_any {w:World} {B:Nat} {v:Value} {l:List Rw} (h:OwnR w B v l) (hl:l.length<=2097152) (hB:B<=w.heap.size) :
  Calls Tryz.prog 238 #[v, .func (.func 91) #[] #[]] w fun e w'=>e= .returned (.tuple #[])/\∃ l':List Rw,l'.Perm l/\l'.Pairwise (fun p q=>ltS q.1 p.1=false)/\OwnR w' B v l'/\Below B w w':=by
 have hlt:∀ x y:Rw,ltOf (fun x y:Rw=>cmpS x.1 y.1) x y=ltS x.1 y.1:=fun x y=>cmpS_lt _ _;have:=sort_own sortR_ren sortR rowC_len (fun x u hu=>by simp at hu;rcases hu with rfl|rfl|rfl|rfl|rfl<;>rfl) Tryz.isAgg55 Tryz.sizeOf55 (fun x y:Rw=>cmpS x.1 y.1) (swo_of ltS_ord (fun x:Rw=>x.1) hlt) 91 (enters_of Tryz.func91 (by kernel_rfl) rfl)
  (fun x y W=>by
   refine (compareR_any _ _ _ _ _ _ _ _ _ _ W).mono ?_;rintro e w' ⟨he,hg⟩;exact ⟨by rw [he,cmpS_or],gr_grow hg⟩) (sortRow_0 _ _) h hl hB
 refine this.mono ?_;rintro e w' ⟨he,l',h1,h2,h3,h4⟩;exact ⟨he,l',h1,h2.imp (fun {a b} h=>by rw [hlt] at h;exact h),h3,h4⟩
theorem sortI_any {w:World} {B:Nat} {v:Value} {l:List It} (h:OwnI w B v l) (hl:l.length<=2097152) (hB:B<=w.heap.size) :
  Calls Tryz.prog 177 #[v, .func (.func 143) #[] #[]] w fun e w'=>e= .returned (.tuple #[])/\∃ l':List It,l'.Perm l/\l'.Pairwise (fun p q=>ltT q.1 p.1=false)/\OwnI w' B v l'/\Below B w w':=by
 have hlt:∀ x y:It,ltOf (fun x y:It=>cmpT x.1 y.1) x y=ltT x.1 y.1:=fun x y=>cmpT_lt _ _;have:=sort_own sortI_ren sortI itC_len (fun x u hu=>by simp at hu;rcases hu with rfl|rfl|rfl<;>rfl) Tryz.isAgg98 Tryz.sizeOf98 (fun x y:It=>cmpT x.1 y.1) (swo_of ltT_ord (fun x:It=>x.1) hlt) 143 (enters_of Tryz.func143 (by kernel_rfl) rfl)
  (fun x y W=>by
   refine (compareI_any _ _ _ _ _ _ W).mono ?_;rintro e w' ⟨he,hg⟩;exact ⟨by rw [he,cmpZ_or],gr_grow hg⟩) (sortItem_0 _ _) h hl hB
 refine this.mono ?_;rintro e w' ⟨he,l',h1,h2,h3,h4⟩;exact ⟨he,l',h1,h2.imp (fun {a b} h=>by rw [hlt] at h;exact h),h3,h4⟩
end Go.Proofs.YtbdpcngcbnoioaaGreatDoor
