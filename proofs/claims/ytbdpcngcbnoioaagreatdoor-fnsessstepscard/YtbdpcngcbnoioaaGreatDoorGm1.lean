import Derived.DeepKeys5
import Derived.WideKeyEntry
import Derived.Maps.RangeWalk
import Derived.Test.YtbdpcngcbnoioaaGreatDoorGp1
import Derived.Test.YtbdpcngcbnoioaaGreatDoorSrt
import Derived.Test.YtbdpcngcbnoioaaGreatDoorGb3
set_option maxRecDepth 100000
set_option maxHeartbeats 4000000
namespace Go.Proofs.YtbdpcngcbnoioaaGreatDoor
open Go.RowKit
open Go.Proofs.Tryz renaming prog->fD,underlying233->fH,underlying131->fV
open _root_.List renaming mem_of_getElem?->gY,getElem?_eq_some_iff->gZ,getElem?_eq_getElem->iC,mem_map->jU,mem_iff_getElem?->kR,getElem?_map->kX,map_cons->lI,eraseIdx_cons_succ->lY,filter_sublist->mF,filter_append->mJ,pairwise_map->nU,append_assoc->oJ,filter_cons->oO,nodup_cons->qA,mem_filter->rN,mem_append->sE,map_set->sG,map_map->sH,length->sI,Perm->wH
open Go renaming Value->wR,World->AT,run_underlying->B3,MapEntry->BK,lt_of_block->E0,wp_loop_rounds->EJ,Result->Ga,Calls->Lx,rounds_succ->Md,TypeId->Nh,Program->Ov,heap_alloc_new->Oz,deep_law_laid->P1,wpList_plain->P2,results_none->P3,bodyPost_ret->P4
open Go.Sort renaming putRowK->P5,flatK->P6,ahead->P7,putCells->P8,mapBlock->P9,putRow->PC,size_flatK->PD,SWO->PE
open _root_.Array renaming getElem?_setIfInBounds->PF,toList_filter->PG,getElem?_eq_getElem->PH,toList_modify->PI,toList_push->PJ,getElem?_append_left->PK,getElem?_modify->PL,ext'->PM
open Go.MapKept renaming run_getObj_map->PN,run_setObj_map->PO,Stamped->PP,stamped_push->PQ
open _root_.Option renaming map_some->PR,some->PS
open Go.Result renaming andThen->PU
open Go.Instr renaming lookup->PV,entryStore->PW,mapEntry->PX,range->PY,entry->PZ,next->Pa
open Go.Value renaming int->Pb,cells->Pc,formed->Pd
open _root_.Nat renaming mul_le_mul_right->Pe,mul_comm->Pg,add_mul->Ph
open _root_.Prod renaming fst->Pi,ext->Pj,mk->Pk
open Go.ChangeMaps renaming modify_eq_set->Pl,map_eraseIdx->Pm
open Go.WideElems renaming findIdx_born->Pn,findIdx_arr->Po
open Go.Program renaming keyLits->Pp
open _root_.Option.some renaming injEq->Pq
open Go.WideMaps renaming KeyLaw->Pr
open Go.RowKit renaming Below->Ps
variable {B j k:Nat}{t:Nh}{v:wR}{w w1:AT}
section
variable {κ:Type}[DecidableEq κ]
theorem CX {M:List (κ×Int)}(hn:(M.map Pi).Nodup){r:κ×Int}(hr:r∈M):aU M r.1=r.2:=by
 induction M with
 | nil=>simp at hr
 | cons x M ih=>
  simp only[lI,qA]at hn;simp only[aU]
  rcases List.mem_cons.1 hr with rfl|hr
  ·rw[if_pos rfl,lD (fun q hq e=>hn.1 (jU.2 ⟨q,hq,e⟩))];omega
  ·rw[if_neg (fun e=>hn.1 (jU.2 ⟨r,hr,e.symm⟩)),ih hn.2 hr];omega
theorem Mw {M:List (κ×Int)}{r:κ×Int}(g:M[j]?=some r)(n:Int)(s:κ):aU (M.set j (r.1,n)) s=aU M s+(if r.1=s then n-r.2 else 0):=by
 induction M generalizing j with
 | nil=>simp at g
 | cons x M ih=>
  cases j with
  | zero=>
   simp at g;subst g;simp only[List.set_cons_zero,aU];split<;>omega
  | succ j=>
   simp only[List.set_cons_succ,aU];rw[ih (by simpa using g)];omega
end
structure xT {κ:Type}(k:Nh)(ek:κ->wR)(ok:κ->Prop):Prop where
 law:Pr fD k
 key:∀s,ok s->∃l,keyOf fD k (ek s)=some l
 inj:∀s s',ek s=ek s'->s=s'
def d9 {κ:Type}(ek:κ->wR)(ok:κ->Prop)(w:AT)(b:Nat)(M:List (κ×Int)):Prop:=
 ∃es clock,w.heap[b]?=some (.map es clock)/\PP es clock/\es.toList.map (fun x=>(x.key,x.val))=M.map (fun p=>(ek p.1,Pb .i64 p.2))/\∀p∈M,ok p.1
section
variable {κ:Type}{ek:κ->wR}{ok:κ->Prop}{k e t:Nh}{w:AT}{b:Nat}{M:List (κ×Int)}
theorem d9.lt (h:d9 ek ok w b M):b<w.heap.size:=by
 obtain⟨D,g,A,_⟩:=h;exact E0 A
theorem d9.move (h:d9 ek ok w b M)(A:w1.heap[b]?=w.heap[b]?):d9 ek ok w1 b M:=by
 obtain⟨D,g,h1,r⟩:=h;exact⟨D,g,by rw[A];exact h1,r⟩
theorem d9.keep (h:d9 ek ok w b M)(g:Ps w.heap.size w w1):d9 ek ok w1 b M:=h.move (g.block b h.lt)
theorem d9.new (w:AT)(g:b=w.heap.size):d9 ek ok (w.alloc (.map #[] 0)) b []:=by
 subst g;exact⟨#[],0,Oz w _,MapKept.stamped_empty 0,by simp,by simp⟩
theorem A3 {g:Array BK}(hm:g.toList.map (fun x=>(x.key,x.val))=M.map (fun p=>(ek p.1,Pb .i64 p.2))){x:BK}(hx:g.toList[j]?=some x):∃p,M[j]?=some p/\x.key=ek p.1/\x.val=.int .i64 p.2:=by
 have h:=congrArg (fun l=>l[j]?) hm;simp only[kX,hx,PR]at h;cases hp:M[j]? with
 | none=>rw[hp]at h;cases h
 | some p=>
  rw[hp]at h;simp only[PR,Pq,Pk.injEq]at h;exact⟨p,rfl,h.1,h.2⟩
theorem B7 (K:xT k ek ok){g:Array BK}(hm:g.toList.map (fun x=>(x.key,x.val))=M.map (fun p=>(ek p.1,Pb .i64 p.2)))(ho:∀p∈M,ok p.1):∀x∈g.toList,∃l,keyOf fD k x.key=some l:=by
 intro x hx;obtain⟨j,A⟩:=kR.1 hx;obtain⟨p,hp,h1,_⟩:=A3 hm A;rw[h1];exact K.key _ (ho p (gY hp))
theorem B4 {A:Array BK}(hm:A.toList.map (fun x=>(x.key,x.val))=M.map (fun p=>(ek p.1,Pb .i64 p.2))){s:κ}(h:∀x∈A.toList,x.key≠ek s):∀r∈M,r.1≠s:=by
 intro r hr e;obtain⟨j,D⟩:=kR.1 hr;have g:=congrArg (fun l=>l[j]?) hm;simp only[kX,D,PR]at g;cases hx:A.toList[j]? with
 | none=>rw[hx]at g;cases g
 | some x=>
  rw[hx]at g;simp only[PR,Pq,Pk.injEq]at g;exact h x (gY hx) (by rw[g.1,e])
theorem tV {A:Array BK}{g:Nat}(hs:PP A g)(hm:A.toList.map (fun x=>(x.key,x.val))=M.map (fun p=>(ek p.1,Pb .i64 p.2))):(M.map Pi).Nodup:=by
 have h1:A.toList.map (·.key)=M.map (fun p=>ek p.1):=by
  have:=congrArg (List.map Pi) hm
  simpa[sH,Function.comp_def]using this
 have h2:=hs.2.2;rw[h1]at h2;have:(M.map fun p=>ek p.1)=(M.map Pi).map ek:=by simp[sH,Function.comp_def]
 rw[this]at h2;exact (nU.1 h2).imp fun h e=>h (by rw[e])
theorem d9.look [DecidableEq κ](h:d9 ek ok w b M)(K:xT k ek ok)(g:fD.underlying t=some (.map k e))(G:∀w,(zeroValue e).run fD w=.ok (.int .i64 0) w){s:κ}(A:ok s):
  (PV t (.map (some b)) (ek s) false).run fD w=.ok (.int .i64 (aU M s)) w:=by
 obtain⟨H,F,D,hs,hm,ho⟩:=h;obtain⟨l,hl⟩:=K.key s A
 rcases K.law.find w hl H.toList (B7 K hm ho) with⟨h1,h2⟩|⟨j,x,h1,h2,h3⟩
 ·rw[lD (B4 hm h2)];simp[PV,B3 g,PN D,K.law.check w _ hl,h1,G,PU]
 ·obtain⟨p,hp,J,I⟩:=A3 hm h2;have:p.1=s:=K.inj _ _ (by rw[<- J,h3]);subst this;rw[CX (tV hs hm) (gY hp),<-I];simp[PV,B3 g,PN D,K.law.check w _ hl,h1,PU]
open Go.ChangeMaps (setBlock) in
theorem d9.enter [DecidableEq κ](h:d9 ek ok w b M)(K:xT k ek ok)(O:fD.underlying t=some (.map k e))(W:∀w,(zeroValue e).run fD w=.ok (.int .i64 0) w){s:κ}(D:ok s)(n:Int):
  ∃(st:Nat)(N o2:Obj)(M':List (κ×Int)),(PX t (.map (some b)) (ek s)).run fD w=.ok (.tuple #[.int .i64 (aU M s),goInt st]) (setBlock w b N) /\
   (PV t (.map (some b)) (ek s) false).run fD (setBlock w b N)=.ok (.int .i64 (aU M s)) (setBlock w b N) /\
   (PW t (.map (some b)) (goInt st) (.int .i64 n)).run fD (setBlock w b N)=.ok () (setBlock w b o2) /\
   d9 ek ok (setBlock w b o2) b M'/\(∀s',aU M' s'=if s=s' then n else aU M s')/\M'.length<=M.length+1:=by
 have hM:=h;obtain⟨A,g,F,hs,hm,ho⟩:=h;obtain⟨l,hl⟩:=K.key s D;have U:b<w.heap.size:=E0 F;have same:∀o,(setBlock w b o).heap[b]?=some o:=fun o=>by simp[setBlock,U]
 have L:∀o V,setBlock (setBlock w b o) b V=setBlock w b V:=fun o V=>by simp[setBlock]
 have x6:A.size=M.length:=by have:=congrArg sI hm;simpa using this
 rcases K.law.find w hl A.toList (B7 K hm ho) with⟨h1,h2⟩|⟨j,x,h1,h2,h3⟩
 ·have h0:=B4 hm h2;have t0:aU M s=0:=lD h0;have m1:d9 ek ok (setBlock w b (.map (A.push ⟨ek s,.int .i64 0,g⟩) (g+1))) b (M++[(s,0)]):=
   ⟨_,_,same _,PQ hs h2,by simp[hm],fun p hp=>by
    rcases sE.1 hp with hp|hp
    ·exact ho p hp
    ·simp at hp;subst hp;exact D⟩
  refine⟨g,.map (A.push ⟨ek s,.int .i64 0,g⟩) (g+1),.map (A.push ⟨ek s,.int .i64 n,g⟩) (g+1),M++[(s,n)],?_,?_,?_,?_,?_,by simp⟩
  ·rw[t0];simp[PX,B3 O,PN F,K.law.check w false hl,h1,W,PO _ F,PU,setBlock]
  ·have:=m1.look K O W D;rw[kJ]at this
   simpa using this
  ·have G:(A.push ⟨ek s,.int .i64 0,g⟩).findIdx? (fun e=>((e.born:Nat):Int)==((g:Nat):Int))=some A.size:=by
    rw[Po];refine Pn (l:=(A.push ⟨ek s,.int .i64 0,g⟩).toList) (j:=A.size) (e0:=⟨ek s,.int .i64 0,g⟩) ?_ (by simp);simp only[PJ,List.map_append,lI,List.map_nil];refine List.nodup_append.2 ⟨hs.2.1,by simp,fun a ha c hc J=>?_⟩;simp only[List.mem_singleton]at hc;obtain⟨x,hx,rfl⟩:=jU.1 ha;have:=hs.1 x hx;omega
   have Y:(A.push ⟨ek s,.int .i64 0,g⟩).modify A.size (fun e=>{ e with val:= .int .i64 n })=A.push ⟨ek s,.int .i64 n,g⟩:=by
    apply PM
    rw[PI,PJ,PJ,<-Array.length_toList,Go.WideElems.modify_last]
   have I:=same (.map (A.push ⟨ek s,.int .i64 0,g⟩) (g+1));have T:=L (.map (A.push ⟨ek s,.int .i64 0,g⟩) (g+1)) (.map (A.push ⟨ek s,.int .i64 n,g⟩) (g+1));generalize setBlock w b (.map (A.push ⟨ek s,.int .i64 0,g⟩) (g+1))=w1 at I T ⊢;rw[<- T];simp[PW,PN I,asInt,asIntOf,goInt,G,Y,PO _ I,PU,setBlock]
  ·exact⟨_,_,same _,PQ hs h2,by simp[hm],fun p hp=>by
    rcases sE.1 hp with hp|hp
    ·exact ho p hp
    ·simp at hp;subst hp;exact D⟩
  ·intro s';rw[kJ]
   by_cases J:s=s'
   ·subst J;simp[t0]
   ·simp[J]
 ·obtain⟨p,hp,J,e2⟩:=A3 hm h2;have:p.1=s:=K.inj _ _ (by rw[<- J,h3]);subst this;have hj:A[j]?=some x:=by simpa using h2
  have tp:=CX (tV hs hm) (gY hp);have y1:j<A.toList.length:=(gZ.1 h2).1;have R:A.modify j (fun e=>{ e with key:=ek p.1 })=A:=by
   apply PM
   rw[PI,Pl _ _ _ _ h2];have:({ x with key:=ek p.1 }:BK)=x:=by rw[<- h3]
   rw[this];exact Go.WideElems.set_self _ _ _ h2
  have H:setBlock w b (.map A g)=w:=by
   have hx:w.heap.setIfInBounds b (.map A g)=w.heap:=by
    apply Array.ext_getElem?
    intro i;rw[PF]
    by_cases hi:b=i
    ·subst hi;rw[if_pos rfl,if_pos U,F]
    ·rw[if_neg hi]
   simp only[setBlock,hx]
  have S:(A.modify j (fun e'=>{ e' with val:= .int .i64 n })).toList=A.toList.set j { x with val:= .int .i64 n }:=by
   rw[PI,Pl _ _ _ _ h2]
  refine⟨x.born,.map A g,.map (A.modify j (fun e'=>{ e' with val:= .int .i64 n })) g,M.set j (p.1,n),?_,?_,?_,?_,?_,by simp⟩
  ·rw[tp,<-e2];simp[PX,B3 O,PN F,K.law.check w false hl,h1,hj,h3,K.law.stays w hl,R,PO _ F,PU,setBlock]
  ·rw[H];exact hM.look K O W D
  ·rw[H];have G:A.findIdx? (fun e=>((e.born:Nat):Int)==((x.born:Nat):Int))=some j:=by
    rw[Po];exact Pn hs.2.1 h2
   simp[PW,PN F,asInt,asIntOf,goInt,G,PO _ F,PU,setBlock]
  ·refine⟨_,_,same _,MapKept.stamped_modify hs _ _ (fun _ _=>rfl) (fun _ _ _=>rfl),?_,fun q hq=>?_⟩
   ·rw[S,sG,sG,hm,h3]
   ·rcases List.mem_or_eq_of_mem_set hq with hq|rfl
    ·exact ho q hq
    ·exact D
  ·intro s';rw[Mw hp]
   by_cases Z:p.1=s'
   ·subst Z;rw[if_pos rfl,if_pos rfl,tp];omega
   ·rw[if_neg Z,if_neg Z];omega
end
open Go.ChangeMaps (setBlock)
theorem Gn {L:List BK}(hn:(L.map (·.born)).Nodup){e:BK}(h:L[j]?=some e):L.filter (fun x=>!(x.born==e.born))=L.eraseIdx j:=by
 induction L generalizing j with
 | nil=>simp at h
 | cons a l ih=>
  simp only[lI,qA]at hn;cases j with
  | zero=>
   simp at h;subst h;rw[oO];simp only[beq_self_eq_true,Bool.not_true,Bool.false_eq_true,if_false,List.eraseIdx_cons_zero];refine List.filter_eq_self.2 fun x hx=>?_;have:x.born≠a.born:=fun g=>hn.1 (jU.2 ⟨x,hx,g⟩)
   simpa using this
  | succ j=>
   have A:l[j]?=some e:=by simpa using h
   have hne:a.born≠e.born:=fun g=>hn.1 (jU.2 ⟨e,gY A,g.symm⟩);rw[oO,if_pos (by simpa using hne),ih hn.2 A,lY]
theorem H7 {α:Type}{l:List α}{x:α}(h:l[j]?=some x):l.Perm (x::l.eraseIdx j):=by
 induction l generalizing j with
 | nil=>simp at h
 | cons a l ih=>
  cases j with
  | zero=>simp at h;subst h;simp
  | succ j=>
   rw[lY];exact ((ih (by simpa using h)).cons a).trans (wH.swap x a _)
theorem Eq (g:Array BK)(seen:Array Nat)(b:Nat):(leftOf g (seen.push b)).toList=(leftOf g seen).toList.filter (fun x=>!(x.born==b)):=by
 unfold leftOf;rw[PG,PG,List.filter_filter]
 congr 1
 funext x
 rw[Array.contains_push];cases seen.contains x.born<;>cases (x.born==b)<;>rfl
def dP {κ:Type}(ek:κ->wR)(ok:κ->Prop)(w:AT)(b r:Nat)(M rest:List (κ×Int)):Prop:=
 ∃es clock seen,w.heap[b]?=some (.map es clock)/\w.heap[r]?=some (.mapIter (some b) clock seen clock)/\PP es clock/\es.toList.map (fun x=>(x.key,x.val))=M.map (fun p=>(ek p.1,Pb .i64 p.2)) /\
  (∀p∈M,ok p.1)/\(leftOf es seen).toList.map (fun x=>(x.key,x.val))=rest.map (fun p=>(ek p.1,Pb .i64 p.2))/\b≠r
section
variable {κ:Type}{ek:κ->wR}{ok:κ->Prop}{w:AT}{b r:Nat}{M rest:List (κ×Int)}
theorem dP.move (h:dP ek ok w b r M rest)(A:w1.heap[b]?=w.heap[b]?)(hr:w1.heap[r]?=w.heap[r]?):dP ek ok w1 b r M rest:=by
 obtain⟨D,g,seen,h1,h2,h3⟩:=h;exact⟨D,g,seen,by rw[A];exact h1,by rw[hr];exact h2,h3⟩
theorem dP.lt (h:dP ek ok w b r M rest):b<w.heap.size/\r<w.heap.size:=by
 obtain⟨A,g,seen,h1,h2,_⟩:=h;exact⟨E0 h1,E0 h2⟩
theorem dP.keep (h:dP ek ok w b r M rest)(g:Ps w.heap.size w w1):dP ek ok w1 b r M rest:=h.move (g.block b h.lt.1) (g.block r h.lt.2)
theorem dP.aO {g:Option Nat}(h:dP ek ok w b r M rest)(hg:w.grownBy w1 g)(hr:∀k,g=some k->b≠k/\r≠k):dP ek ok w1 b r M rest:=
 h.move (hg.block b h.lt.1 (fun e=>(hr _ e.symm).1 rfl)) (hg.block r h.lt.2 (fun e=>(hr _ e.symm).2 rfl))
theorem dP.start {k e:Nh}(h:d9 ek ok w b M)(G:fD.underlying t=some (.map k e)):∃w',(PY t (.map (some b))).run fD w=.ok (.pointer (some ⟨w.heap.size,0,none⟩)) w'/\dP ek ok w' b w.heap.size M M/\Ps w.heap.size w w'/\w'.heap.size=w.heap.size+1:=by
 have D:=h.lt;obtain⟨A,g,F,hs,hm,ho⟩:=h;refine⟨w.alloc (.mapIter (some b) g #[] g),?_,⟨A,g,#[],?_,Oz w _,hs,hm,ho,?_,by omega⟩,aG (Ps.refl _ _) _,by simp⟩
 ·simp[PY,B3 G,PN F,PU,newObj,Sem.run]
 ·rw[Ps.heap_alloc _ _ _ D];exact F
 ·have:(leftOf A #[]).toList=A.toList:=by unfold leftOf;simp
  rw[this];exact hm
theorem dP.next (h:dP ek ok w b r M rest)(N:Nh):
  (rest=[]/\(Pa (.pointer (some ⟨r,0,none⟩)) false N).run fD w=.ok (.tuple #[.bool false]) w) \/
  ∃(p:κ×Int)(A:List (κ×Int))(w':AT),rest.Perm (p::A)/\(Pa (.pointer (some ⟨r,0,none⟩)) false N).run fD w=.ok (.tuple #[.bool true,ek p.1,.int .i64 p.2]) w'/\dP ek ok w' b r M A /\
   (PZ (.pointer (some ⟨r,0,none⟩))).run fD w'=.ok (.tuple #[ek p.1,.int .i64 p.2]) w'/\Bx r w w'/\w'.heap.size=w.heap.size/\A.length+1=rest.length:=by
 obtain⟨F,g,seen,h1,h2,hs,hm,ho,hl,J⟩:=h
 rcases run_next_at (P:=fD) w N r b g g seen F g h2 h1 hs.1 (Nat.le_refl _) with⟨h0,D⟩|⟨x,hx,w1,S,D⟩
 ·left
  refine⟨?_,D⟩;have:(leftOf F seen).toList=[]:=List.eq_nil_of_length_eq_zero (by simpa using h0);rw[this]at hl;exact List.map_eq_nil_iff.1 hl.symm
 ·right
  obtain⟨j,W⟩:=kR.1 hx;obtain⟨p,hp,e1,Z⟩:∃p,rest[j]?=some p/\x.key=ek p.1/\x.val=.int .i64 p.2:=by
   have H:=congrArg (fun l=>l[j]?) hl;simp only[kX,W,PR]at H;cases hp:rest[j]? with
   | none=>rw[hp]at H;cases H
   | some p=>
    rw[hp]at H;simp only[PR,Pq,Pk.injEq]at H;exact⟨p,rfl,H.1,H.2⟩
  have R:x∈F.toList:=by
   unfold leftOf at hx;rw[PG]at hx;exact (rN.1 hx).1
  have V:=(gZ.1 hp);obtain⟨O,_⟩:=V;have U:((leftOf F seen).toList.map (·.born)).Nodup:=by
   unfold leftOf;rw[PG];exact hs.2.1.sublist ((mF (l:=F.toList)).map _)
  rw[e1,Z]at D;have G:Bx r w w1/\w1.heap=w.heap:=by
   rcases S with rfl|rfl
   ·exact⟨Bx.refl _ _,rfl⟩
   ·exact⟨(Bx.refl _ _).drew,rfl⟩
  have T:r<w1.heap.size:=by rw[G.2];exact E0 h2
  have Y:Bx r w (setBlock w1 r (.mapIter (some b) g (seen.push x.born) g)):=by
   refine⟨G.1.os,G.1.tape,G.1.output,by simp[setBlock,G.2],fun k hk hne=>?_⟩;simp only[setBlock,PF];rw[if_neg (fun e=>hne e.symm),G.2]
  have L:(setBlock w1 r (.mapIter (some b) g (seen.push x.born) g)).heap[r]?=some (.mapIter (some b) g (seen.push x.born) g):=by simp[setBlock,T]
  have I:(setBlock w1 r (.mapIter (some b) g (seen.push x.born) g)).heap[b]?=some (.map F g):=by rw[Y.block b (E0 h1) J];exact h1
  refine⟨p,rest.eraseIdx j,_,?_,D,⟨F,g,seen.push x.born,I,L,hs,hm,ho,?_,J⟩,?_,Y,by simp[setBlock,G.2],?_⟩
  ·exact H7 hp
  ·rw[Eq,Gn U W,Pm,Pm,hl]
  ·have:=run_entry_at (P:=fD) _ r b g seen F g x L I R hs.2.1;rw[e1,Z]at this;exact this
  ·rw[List.length_eraseIdx_of_lt O];omega
end
def nS (n:Int):Prop:=-4611686018427387904<=n/\n<=4611686018427387904
theorem Bp {n:Int}(h:nS n):(Lit.int .i64 n).wf=true:=by
 obtain⟨h1,h2⟩:=h;have A:IntKind.i64.min = -9223372036854775808:=by decide
 have g:IntKind.i64.max=9223372036854775807:=by decide
 simp only[Lit.wf,A,g];simp;omega
abbrev wC (s:Sp):wR:= .agg #[.int .i64 s.1.1,.int .i64 s.1.2,.int .i64 s.2.1,.int .i64 s.2.2]
abbrev qI (s:Int×Int):wR:= .agg #[.int .i64 s.1,.int .i64 s.2]
def spOk (s:Sp):Prop:=nS s.1.1/\nS s.1.2/\nS s.2.1/\nS s.2.2
def thOk (s:Int×Int):Prop:=nS s.1/\nS s.2
theorem Le:∃m,fD.types.size=m+3:=⟨fD.types.size-3,by kernel_rfl⟩
theorem Oj:Pr fD 233:=P1 xN (m:=6) (by omega) (of_decide_eq_true (by kernel_rfl)) (by kernel_rfl) (by kernel_rfl)
theorem Ol:Pr fD 131:=P1 xN (m:=6) (by omega) (of_decide_eq_true (by kernel_rfl)) (by kernel_rfl) (by kernel_rfl)
theorem BR (D:Nat){n:Int}(h:(Lit.int .i64 n).wf=true):fD.keyLits (D+1) 3 [.int .i64 n]=some [.int .i64 n]:=by
 simp[Pp,Tryz.underlying3,h]
theorem OZ (D:Nat){a b:Int}(ha:(Lit.int .i64 a).wf=true)(g:(Lit.int .i64 b).wf=true):fD.keyLits (D+2) 32 [.int .i64 a,.int .i64 b]=some [.int .i64 a,.int .i64 b]:=by
 have c2:fD.cellsOf 32=2:=by kernel_rfl
 have c3:fD.cellsOf 3=1:=by kernel_rfl
 unfold Pp;rw[Tryz.underlying32];simp only;rw[if_pos ⟨c2.symm,by kernel_rfl⟩];simp[c3,BR _ ha,BR _ g]
theorem OS (s:Sp)(h:spOk s):∃l,keyOf fD 233 (wC s)=some l:=by
 obtain⟨h0,h1,h2,h3⟩:=h;have w0:=Bp h0;have w1:=Bp h1;have A:=Bp h2;have g:=Bp h3;have D:fD.keyType 233=true:=by kernel_rfl
 have c1:fD.cellsOf 233=4:=by kernel_rfl
 have c2:fD.cellsOf 32=2:=by kernel_rfl
 have c3:fD.cellsOf 3=1:=by kernel_rfl
 obtain⟨m,hm⟩:=Le;unfold keyOf;rw[fH];simp only[D,Bool.true_and];have hf:(wC s).formed fD 233=true:=by
  simp[Pd,fH,c1]
 rw[hf,if_pos rfl,hm];unfold Pp;rw[fH];simp only;rw[if_pos ⟨by rw[c1];simp[Pc],by kernel_rfl⟩];simp[c2,c3,Pc,BR _ w0,BR _ w1,OZ _ A g]
theorem Of (s:Int×Int)(h:thOk s):∃l,keyOf fD 131 (qI s)=some l:=by
 obtain⟨h0,h1⟩:=h;have w0:=Bp h0;have w1:=Bp h1;have g:fD.keyType 131=true:=by kernel_rfl
 have c1:fD.cellsOf 131=2:=by kernel_rfl
 have c3:fD.cellsOf 3=1:=by kernel_rfl
 obtain⟨m,hm⟩:=Le;unfold keyOf;rw[fV];simp only[g,Bool.true_and];have hf:(qI s).formed fD 131=true:=by
  simp[Pd,fV,c1]
 rw[hf,if_pos rfl,hm];unfold Pp;rw[fV];simp only;rw[if_pos ⟨by rw[c1];simp[Pc],by kernel_rfl⟩];simp[c3,Pc,BR _ w0,BR _ w1]
theorem NZ:xT 233 wC spOk:=⟨Oj,OS,fun s s' h=>by
 simp at h;exact Pj (Pj h.1 h.2.1) (Pj h.2.2.1 h.2.2.2)⟩
theorem BL:xT 131 qI thOk:=⟨Ol,Of,fun s s' h=>by
 simp at h;exact Pj h.1 h.2⟩
open Go.ChangeMaps (setBlock)
theorem mL {W:AT}{b:Nat}{o:Obj}(h:Ps B w W)(A:B<=b):Ps B w (setBlock W b o):=by
 refine⟨h.os,h.tape,h.output,by simp[setBlock,h.size],fun k g=>?_⟩;simp only[setBlock,PF];rw[if_neg (by omega)];exact h.block k g
theorem vZ (W:AT)(b:Nat)(o:Obj):(setBlock W b o).heap.size=W.heap.size:=by simp[setBlock]
def D4 (w:AT)(b r:Nat):Nat:=
 match w.heap[b]?,w.heap[r]? with
 | some (.map es _),some (.mapIter _ _ seen _)=>(leftOf es seen).size
 | _,_=>0
section
variable {κ:Type}{ek:κ->wR}{ok:κ->Prop}{w:AT}{b r:Nat}{M left:List (κ×Int)}
theorem dP.count (h:dP ek ok w b r M left):D4 w b r=left.length:=by
 obtain⟨A,g,seen,h1,h2,_,_,_,hl,_⟩:=h;unfold D4;rw[h1,h2];have:=congrArg sI hl
 simpa using this
theorem dP.nodup (h:dP ek ok w b r M left):(M.map Pi).Nodup:=by
 obtain⟨A,g,seen,_,_,hs,hm,_⟩:=h;exact tV hs hm
variable {ops:Array Oper}{rest:List Oper}{o:Oper}{a:Act}{Q:Exit->Act->AT->Prop}
theorem DJ (w:AT)(hg:o.guard=none)(m:Operand)(t:Nh)(A:o.op=Op.range t m)(k e:Nh)(I:fD.underlying t=some (.map k e))(b:Nat)(M:List (κ×Int))(hm:a.eval m=.map (some b))(h:d9 ek ok w b M)
  (J:∀w',dP ek ok w' b w.heap.size M M->Ps w.heap.size w w'->w'.heap.size=w.heap.size+1->wpList fD ops Q rest (a.put o.dst (.pointer (some ⟨w.heap.size,0,none⟩))) w'):wpList fD ops Q (o::rest) a w:=by
 refine P2 hg fun L D=>?_;obtain⟨w',g,H,G,F⟩:=dP.start h I;unfold Oper.wp;simp[execOp,A,hm,g,PU];exact D _ _ (J w' H G F)
theorem Fg (w:AT)(hg:o.guard=none)(it:Operand)(F:o.op=Op.next it false)(b r:Nat)(M left:List (κ×Int))(G:a.eval it=.pointer (some ⟨r,0,none⟩))(h:dP ek ok w b r M left)
  (D:left=[]->wpList fD ops Q rest (a.put o.dst (.tuple #[.bool false])) w)
  (A:∀(p:κ×Int)(left':List (κ×Int))(w':AT),left.Perm (p::left')->dP ek ok w' b r M left'->(PZ (.pointer (some ⟨r,0,none⟩))).run fD w'=.ok (.tuple #[ek p.1,.int .i64 p.2]) w'->Bx r w w'->w'.heap.size=w.heap.size->left'.length+1=left.length ->
   wpList fD ops Q rest (a.put o.dst (.tuple #[.bool true,ek p.1,.int .i64 p.2])) w'):wpList fD ops Q (o::rest) a w:=by
 refine P2 hg fun J H=>?_;unfold Oper.wp
 rcases h.next o.type with⟨h0,g⟩|⟨p,left',w',hp,g,hr,I,hx,hs,hl⟩
 ·simp[execOp,F,G,g,PU];exact H _ _ (D h0)
 ·simp[execOp,F,G,g,PU];exact H _ _ (A p left' w' hp hr I hx hs hl)
end
section
variable {K:Type}{lt:K->K->Bool}
theorem collected [DecidableEq K](O:q7 lt){l M L l':List (K×Int)}(hn:(M.map Pi).Nodup)(D:∀s,aU M s=aU l s)(F:L.Perm (M.filter fun r=>decide (r.2≠0)))(hp:l'.Perm L)(hs:l'.Pairwise (fun p q=>lt q.1 p.1=false)):l'=aP lt l:=by
 have g:=hp.trans F;have A:(l'.map Pi).Nodup:=(g.map Pi).nodup_iff.2 (hn.sublist ((mF (l:=M)).map _));refine nJ O ?_ ?_ fun s=>?_
 ·have h1:l'.Pairwise fun p q=>p.1≠q.1:=nU.1 A;refine (List.Pairwise.and hs h1).imp fun {a b} ⟨h2,h3⟩=>?_;cases e:lt a.1 b.1
  ·exact absurd (O.tri _ _ e h2) h3
  ·rfl
 ·intro r hr;have:=(rN.1 (g.mem_iff.1 hr)).2
  simpa using this
 ·rw[Kh g,wE,D]
theorem zU {M done left left' L:List (K×Int)}{p:K×Int}(h:M.Perm (done++left))(hp:left.Perm (p::left'))(g:L.Perm (done.filter fun r=>decide (r.2≠0)))(h0:p.2≠0):
  M.Perm ((done++[p])++left')/\(L++[p]).Perm ((done++[p]).filter fun r=>decide (r.2≠0)):=by
 constructor
 ·rw[oJ];exact h.trans (hp.append_left done)
 ·rw[mJ];have:[p].filter (fun r=>decide (r.2≠0))=[p]:=by simp[h0]
  rw[this];exact g.append_right _
theorem Ak {M done left left' L:List (K×Int)}{p:K×Int}(h:M.Perm (done++left))(hp:left.Perm (p::left'))(g:L.Perm (done.filter fun r=>decide (r.2≠0)))(h0:p.2=0):
  M.Perm ((done++[p])++left')/\L.Perm ((done++[p]).filter fun r=>decide (r.2≠0)):=by
 constructor
 ·rw[oJ];exact h.trans (hp.append_left done)
 ·rw[mJ];have:[p].filter (fun r=>decide (r.2≠0))=[]:=by simp[h0]
  rw[this,List.append_nil];exact g
end
theorem MP (w:AT):Lx fD 214 #[.int .u64 0] w fun e w'=>(∃r:Int,e=.returned (.int .i64 r))/\w'=w:=by
 go_enter Tryz.func214,Tryz.ntmps214;go_wp2_with fail;go_ret;exact⟨⟨_,rfl⟩,rfl⟩
theorem Lf (w:AT):Lx fD 166 #[.int .u64 0] w fun e w'=>(∃r:Int,e=.returned (.int .i64 r))/\w'=w:=by
 go_enter Tryz.func166,Tryz.ntmps166
 go_wp2_with (go_at_call 214;refine (MP _).mono ?_;rintro e w' ⟨⟨r,rfl⟩,rfl⟩)
 go_ret;exact⟨⟨_,rfl⟩,rfl⟩
theorem FD (g:wR)(w:AT):
  Lx fD 270 #[.slice none 0 0,.int .i64 0,.int .i64 0,g] w fun e w'=>e=.returned (.tuple #[])/\w'=w:=by
 go_enter Tryz.func270,Tryz.ntmps270;go_wp2_with fail;refine EJ 1 ?_;rw[Md];go_wp2_with fail
 go_end0
 exact⟨rfl,rfl⟩
theorem L4 (r:Int)(g:wR)(w:AT):
  Lx fD 259 #[.slice none 0 0,.int .i64 0,.int .i64 0,.int .i64 r,g] w fun e w'=>e=.returned (.tuple #[])/\w'=w:=by
 go_enter Tryz.func259,Tryz.ntmps259;go_wp2_with fail;refine EJ 1 ?_;rw[Md];go_wp2_with fail;refine (FD _ _).mono ?_;rintro e w1 ⟨rfl,rfl⟩;go_wp2_with fail
 (try simp only[Exit.inBlock,Exit.then])
 refine P4 (P3 rfl _ _ _) rfl ?_;exact⟨rfl,rfl⟩
theorem JD (g:wR)(w:AT):Lx fD 238 #[.slice none 0 0,g] w fun e w'=>e=.returned (.tuple #[])/\w'=w:=by
 go_enter Tryz.func238,Tryz.ntmps238
 go_wp2_with (first|(go_at_call 166;refine (Lf _).mono ?_;rintro e w' ⟨⟨r,rfl⟩,rfl⟩)|(go_at_call 259;refine (L4 _ _ _).mono ?_;rintro e w1 ⟨rfl,rfl⟩))
 go_end0
 exact⟨rfl,rfl⟩
theorem DM (g:wR)(w:AT):
  Lx fD 247 #[.slice none 0 0,.int .i64 0,.int .i64 0,g] w fun e w'=>e=.returned (.tuple #[])/\w'=w:=by
 go_enter Tryz.func247,Tryz.ntmps247;go_wp2_with fail;refine EJ 1 ?_;rw[Md];go_wp2_with fail
 go_end0
 exact⟨rfl,rfl⟩
theorem JF (r:Int)(g:wR)(w:AT):
  Lx fD 227 #[.slice none 0 0,.int .i64 0,.int .i64 0,.int .i64 r,g] w fun e w'=>e=.returned (.tuple #[])/\w'=w:=by
 go_enter Tryz.func227,Tryz.ntmps227;go_wp2_with fail;refine EJ 1 ?_;rw[Md];go_wp2_with fail;refine (DM _ _).mono ?_;rintro e w1 ⟨rfl,rfl⟩;go_wp2_with fail
 (try simp only[Exit.inBlock,Exit.then])
 refine P4 (P3 rfl _ _ _) rfl ?_;exact⟨rfl,rfl⟩
theorem Ge (g:wR)(w:AT):Lx fD 177 #[.slice none 0 0,g] w fun e w'=>e=.returned (.tuple #[])/\w'=w:=by
 go_enter Tryz.func177,Tryz.ntmps177
 go_wp2_with (first|(go_at_call 166;refine (Lf _).mono ?_;rintro e w' ⟨⟨r,rfl⟩,rfl⟩)|(go_at_call 227;refine (JF _ _ _).mono ?_;rintro e w1 ⟨rfl,rfl⟩))
 go_end0
 exact⟨rfl,rfl⟩
open Go.Shelf Go.Lib
section
variable {α:Type}[Inhabited α]
theorem C9 {enc:α->List wR}(D:∀x,(enc x).length=k){l:List α}{i:Nat}{x:α}(h:l[i]?=some x)(g:j<k):(P6 enc k l.toArray)[i*k+j]?=(enc x)[j]?:=by
 have hi:=(gZ.1 h).1;have A:i*k+j<l.toArray.size*k:=by
  have:(i+1)*k<=l.length*k:=Pe k hi;rw[Ph]at this;simp;omega
 have G:(i*k+j) / k=i:=by
  rw[Pg,Nat.mul_add_div (by omega),Nat.div_eq_of_lt g,Nat.add_zero]
 have F:(i*k+j)%k=j:=by
  rw[Pg,Nat.mul_add_mod,Nat.mod_eq_of_lt g]
 have hx:l.toArray[i]! = x:=by
  rw[getElem!_pos l.toArray i (by simpa using hi)]
  simpa using (gZ.1 h).2
 simp only[P6,Array.getElem?_map];rw[Array.getElem?_range,if_pos A,PR,G,F,hx];rw[getElem!_pos (enc x) j (by rw[D];exact g),iC (by rw[D];exact g)]
theorem Bi {enc:α->List wR}{g:Nat}{c:Array wR}{l:List α}(G:∀x,(enc x).length=k)(h:Bk w g c t)(hf:j6 enc k c l l.length):Sort.HoldsK enc k w g 0 l.toArray:=by
 intro j A;rw[PD]at A;have F:j<l.length*k:=by simpa using A
 have D:0<k:=by
  rcases Nat.eq_zero_or_pos k with e|e
  ·subst e;omega
  ·exact e
 have e:j=j / k*k+j%k:=by rw[Pg];exact (Nat.div_add_mod j k).symm
 have hq:j / k<l.length:=Nat.div_lt_of_lt_mul (by rw[Pg];exact F);have hr:j%k<k:=Nat.mod_lt _ D;have h1:=hf _ _ hq (iC hq) _ hr;have h2:=C9 G (iC hq) hr;rw[<- e]at h1 h2;refine⟨?_,h.free _⟩;rw[Nat.zero_add];have hs:j<(P6 enc k l.toArray).size:=by rw[PD];exact A
 have h3:(P6 enc k l.toArray)[j]?=some ((P6 enc k l.toArray)[j]!):=by rw[getElem!_pos _ j hs,PH hs]
 rw[h2]at h3;exact h.cell (h1.trans h3)
theorem FQ {enc:α->List wR}(A:∀x,(enc x).length=k){c:Array wR}{l l':List α}(hl:l'.length=l.length)(hf:l.length*k<=c.size):j6 enc k (P8 id 0 (P6 enc k l'.toArray) c) l' l'.length:=by
 intro i x hi hx j D;have g:i*k+j<l'.length*k:=by
  have:(i+1)*k<=l'.length*k:=Pe k hi;rw[Ph]at this;omega
 have F:i*k+j<c.size:=by rw[hl]at g;omega
 have h2:=C9 A hx D;have hs:i*k+j<(P6 enc k l'.toArray).size:=by rw[PD];simpa using g
 rw[<- h2];unfold P8;rw[Array.getElem?_mapIdx,PH F,PR,if_pos ⟨by omega,by omega⟩,Nat.sub_zero]
 show some ((P6 enc k l'.toArray)[i*k+j]!)=_
 rw[getElem!_pos (P6 enc k l'.toArray) (i*k+j) hs,PH hs]
theorem EE {enc:α->List wR}{l:List α}(F:Ren)(L:SlLaysF0.n6 fD F)(H:∀x,(enc x).length=k)(h1:∀x,∀u∈enc x,u.oneCell'=true)
  (aE:∀w,(isAgg (F.t 24)).run fD w=.ok true w) (zE:∀w,(Go.sizeOf (F.t 24)).run fD w=.ok k w) (S:α->α->Int) (hO:PE (ltOf S)) (g:Nat) (eg:∀args w,(callFunc g args).run fD w=.ok (.enter g args) w)
  (Y:∀(x y:α)(W:AT),Lx fD g #[.agg (enc x).toArray,.agg (enc y).toArray] W fun e w'=>e=.returned (.int .i64 (S x y))/\∃q x1,w'=Sort.grow (W.drewN q) x1)
  (N:Lx fD (F.f 6) #[.slice none 0 0,.func (.func g) #[] #[]] w fun e w'=>e=.returned (.tuple #[])/\w'=w) (h:pB enc k t w B v l) (hl:l.length<=2097152) (hB:B<=w.heap.size):
  Lx fD (F.f 6) #[v,.func (.func g) #[] #[]] w fun e w'=>e=.returned (.tuple #[])/\∃l':List α,l'.Perm l/\l'.Pairwise (fun p q=>ltOf S q p=false)/\pB enc k t w' B v l'/\Ps B w w':=by
 rcases gE h H with⟨rfl,rfl⟩|⟨b,T,c,rfl,hg,R,hs,hc,hm,O⟩
 ·refine N.mono ?_;rintro e w' ⟨rfl,rfl⟩;exact⟨rfl,[],wH.refl _,by simp,h,Ps.refl _ _⟩
 ·have hH:=Bi H R O;have I:=AnyQ.slices_SortFunc L k aE zE enc H h1 S hO g #[] b 0 T l.toArray w eg (fun m os dk _ x y=>by simpa using Y x y _) hH R.lt (by simp;omega);have x2:l.toArray.size=l.length:=by simp
  rw[x2]at I;refine I.mono ?_;rintro e w' ⟨rfl,A,n,os,hp,U,rfl⟩;obtain⟨p1,_,p3⟩:=hp;have hd:A.size=l.length:=by rw[p1];simp
  have hx:A.extract 0 l.length=A:=by rw[<- hd];simp
  have J:A.toList.Perm l:=by
   rw[hx]at p3
   simpa using p3
  have D:A.toList.length=l.length:=by simpa using hd
  have Z:=R.lt;have h9:(sortWorldK enc k w b 0 n A os).heap[b]?=some (.cells (P8 id 0 (P6 enc k A) c) t (0,0)):=by
   have x7:w.heap[b]?=some (.cells c t (0,0)):=R;have V:b<(P5 enc k (P7 w n) b 0 A).heap.size:=by
    simp only[P5,PC,P9];simpa[P7]using Z
   show ((P5 enc k (P7 w n) b 0 A).heap++os)[b]?=_
   rw[PK V];simp only[P5,PC,P9,P7,PL,if_pos,x7,PR]
   rfl
  have x5:(P8 id 0 (P6 enc k A) c).size=T*k:=by simp[P8,hs]
  have hfl:j6 enc k (P8 id 0 (P6 enc k A) c) A.toList A.toList.length:=by
   have:=FQ H (c:=c) (l:=l) (l':=A.toList) D (by rw[hs];exact Pe k hc)
   simpa using this
  have G:=xM (enc:=enc) (B:=B) (w:=sortWorldK enc k w b 0 n A os) h9 hfl H x5 (by rw[D];exact hc) hm hg;refine⟨rfl,A.toList,J,?_,by rw[D]at G;simpa only[D]using G,?_⟩
  ·refine List.pairwise_iff_getElem.2 fun i j hi hj x4=>?_;have:=U i j (by omega) x4 (by omega);rw[getElem!_pos A i (by simpa using hi),getElem!_pos A j (by simpa using hj)]at this
   simpa using this
  ·refine⟨rfl,rfl,rfl,?_,fun q hq=>?_⟩
   ·show w.heap.size<=((P5 enc k (P7 w n) b 0 A).heap++os).size
    simp only[P5,PC,P9,P7];simp
   ·show ((P5 enc k (P7 w n) b 0 A).heap++os)[q]?=_
    have x3:q<(P5 enc k (P7 w n) b 0 A).heap.size:=by
     simp only[P5,PC,P9,P7];simp;omega
    rw[PK x3];simp only[P5,PC,P9,P7,PL];rw[if_neg (by omega)]
end
theorem Hw {α K:Type}{lt:K->K->Bool}[DecidableEq K](O:q7 lt)(key:α->K){D:α->α->Int}(h:∀x y,ltOf D x y=lt (key x) (key y)):PE (ltOf D) where
 irrefl x:=by rw[h];exact O.irr _
 trans x y z h1 h2:=by rw[h]at *;exact O.trans _ _ _ h1 h2
 ntrans x y z h1 h2:=by
  rw[h]at *;cases e:lt (key x) (key z)
  ·rfl
  ·by_cases g:key x=key y
   ·rw[<- g]at h2;rw[e]at h2;cases h2
   ·have A:lt (key y) (key x)=true:=by
     cases F:lt (key y) (key x)
     ·exact absurd (O.tri _ _ h1 F) g
     ·rfl
    have:=O.trans _ _ _ A e;rw[this]at h2;cases h2
theorem J9 {l:List Rw}(h:aD w B v l)(hl:l.length<=2097152)(F:B<=w.heap.size):
  Lx fD 238 #[v,.func (.func 91) #[] #[]] w fun e w'=>e=.returned (.tuple #[])/\∃l':List Rw,l'.Perm l/\l'.Pairwise (fun p q=>aQ q.1 p.1=false)/\aD w' B v l'/\Ps B w w':=by
 have g:∀x y:Rw,ltOf (fun x y:Rw=>iI x.1 y.1) x y=aQ x.1 y.1:=fun x y=>yJ _ _;have:=EE sortR_ren sortR jD (fun x u D=>by simp at D;rcases D with rfl|rfl|rfl|rfl|rfl<;>rfl) Tryz.isAgg55 Tryz.sizeOf55 (fun x y:Rw=>iI x.1 y.1) (Hw eE (fun x:Rw=>x.1) g) 91 (enters_of Tryz.func91 (by kernel_rfl) rfl)
  (fun x y W=>by
   refine (wZ _ _ _ _ _ _ _ _ _ _ W).mono ?_;rintro e w' ⟨A,hg⟩;exact⟨by rw[A,Fd],GA hg⟩) (JD _ _) h hl F
 refine this.mono ?_;rintro e w' ⟨A,l',h1,h2,h3,h4⟩;exact⟨A,l',h1,h2.imp (fun {a b} h=>by rw[g]at h;exact h),h3,h4⟩
theorem Iy {l:List It}(h:bZ w B v l)(hl:l.length<=2097152)(F:B<=w.heap.size):
  Lx fD 177 #[v,.func (.func 143) #[] #[]] w fun e w'=>e=.returned (.tuple #[])/\∃l':List It,l'.Perm l/\l'.Pairwise (fun p q=>cO q.1 p.1=false)/\bZ w' B v l'/\Ps B w w':=by
 have g:∀x y:It,ltOf (fun x y:It=>wO x.1 y.1) x y=cO x.1 y.1:=fun x y=>GD _ _;have:=EE sortI_ren sortI yH (fun x u D=>by simp at D;rcases D with rfl|rfl|rfl<;>rfl) Tryz.isAgg98 Tryz.sizeOf98 (fun x y:It=>wO x.1 y.1) (Hw eI (fun x:It=>x.1) g) 143 (enters_of Tryz.func143 (by kernel_rfl) rfl)
  (fun x y W=>by
   refine (xV _ _ _ _ _ _ W).mono ?_;rintro e w' ⟨A,hg⟩;exact⟨by rw[A,G6],GA hg⟩) (Ge _ _) h hl F
 refine this.mono ?_;rintro e w' ⟨A,l',h1,h2,h3,h4⟩;exact⟨A,l',h1,h2.imp (fun {a b} h=>by rw[g]at h;exact h),h3,h4⟩
end Go.Proofs.YtbdpcngcbnoioaaGreatDoor
