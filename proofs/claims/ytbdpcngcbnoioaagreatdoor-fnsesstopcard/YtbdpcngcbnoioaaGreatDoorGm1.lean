import Derived.DeepKeys5
import Derived.WideKeyEntry
import Derived.Maps.RangeWalk
import Derived.Test.YtbdpcngcbnoioaaGreatDoorGp1
import Derived.Test.YtbdpcngcbnoioaaGreatDoorSrt
import Derived.Test.YtbdpcngcbnoioaaGreatDoorGb3
set_option maxRecDepth 100000
set_option maxHeartbeats 4000000
namespace Go.Proofs.YtbdpcngcbnoioaaGreatDoor
open Go.RowKit
open Go.Proofs.Tryz renaming prog->fM,underlying233->fQ,underlying131->gD
open _root_.List renaming mem_of_getElem?->gM,getElem?_eq_some_iff->gQ,getElem?_eq_getElem->gX,mem_map->iM,mem_iff_getElem?->iP,getElem?_map->jB,map_cons->jO,eraseIdx_cons_succ->mO,filter_sublist->nA,filter_append->nB,pairwise_map->nT,append_assoc->nX,filter_cons->oU,nodup_cons->oW,mem_filter->pU,mem_append->qV,map_set->sD,map_map->tJ,length->tK,Perm->tL
open Go renaming Value->tM,World->tN,run_underlying->xU,MapEntry->xV,lt_of_block->AP,wp_loop_rounds->AW,Result->C5,Calls->Df,TypeId->E8,rounds_succ->Fj,Program->Fl,heap_alloc_new->Ih,deep_law_laid->JK,wpList_plain->M1,results_none->Nk,bodyPost_ret->Qz
open Go.Sort renaming putRowK->RW,flatK->Re,ahead->Rg,putCells->Rh,mapBlock->Ri,putRow->Rk,size_flatK->Rm,SWO->Rn
open _root_.Array renaming getElem?_setIfInBounds->Ro,toList_filter->Rp,getElem?_eq_getElem->Rq,toList_modify->Rt,toList_push->Ru,getElem?_append_left->Rv,getElem?_modify->Rx,ext'->Ry
open Go.MapKept renaming run_getObj_map->Rz,run_setObj_map->S0,Stamped->S1,stamped_push->S2
open _root_.Option renaming map_some->S3,some->S4
open Go.Result renaming andThen->S5
open Go.Instr renaming lookup->S6,entryStore->S7,mapEntry->S8,range->S9,entry->SA,next->SB
open Go.Value renaming int->SC,cells->SD,formed->SE
open _root_.Nat renaming mul_le_mul_right->SF,mul_comm->SG,add_mul->SH
open _root_.Prod renaming fst->SI,ext->SJ,mk->SK
open Go.ChangeMaps renaming modify_eq_set->SL,map_eraseIdx->SM
open Go.WideElems renaming findIdx_born->SN,findIdx_arr->SO
open Go.Program renaming keyLits->SP
open _root_.Option.some renaming injEq->SQ
open Go.WideMaps renaming KeyLaw->SR
open Go.RowKit renaming Below->SU
variable {B j:Nat}{v:tM}{w1:tN}
section
variable {κ:Type}[DecidableEq κ]
theorem pR {M:List (κ×Int)}(hn:(M.map SI).Nodup){r:κ×Int}(hr:r∈M):aK M r.1=r.2:=by
 induction M with
 | nil=>simp at hr
 | cons x M ih=>
  simp only[jO,oW]at hn;simp only[aK]
  rcases List.mem_cons.1 hr with rfl|hr
  ·rw[if_pos rfl,iS (fun q hq e=>hn.1 (iM.2 ⟨q,hq,e⟩))];omega
  ·rw[if_neg (fun e=>hn.1 (iM.2 ⟨r,hr,e.symm⟩)),ih hn.2 hr];omega
theorem Cb {M:List (κ×Int)}{r:κ×Int}(g:M[j]?=some r)(n:Int)(s:κ):aK (M.set j (r.1,n)) s=aK M s+(if r.1=s then n-r.2 else 0):=by
 induction M generalizing j with
 | nil=>simp at g
 | cons x M ih=>
  cases j with
  | zero=>
   simp at g;subst g;simp only[List.set_cons_zero,aK];split<;>omega
  | succ j=>
   simp only[List.set_cons_succ,aK];rw[ih (by simpa using g)];omega
end
structure pW {κ:Type}(k:E8)(ek:κ->tM)(ok:κ->Prop):Prop where
 law:SR fM k
 key:∀s,ok s->∃l,keyOf fM k (ek s)=some l
 inj:∀s s',ek s=ek s'->s=s'
def bG {κ:Type}(ek:κ->tM)(ok:κ->Prop)(w:tN)(b:Nat)(M:List (κ×Int)):Prop:=
 ∃es clock,w.heap[b]?=some (.map es clock)/\S1 es clock/\es.toList.map (fun x=>(x.key,x.val))=M.map (fun p=>(ek p.1,SC .i64 p.2))/\∀p∈M,ok p.1
section
variable {κ:Type}{ek:κ->tM}{ok:κ->Prop}{k e t:E8}{w:tN}{b:Nat}{M:List (κ×Int)}
theorem bG.lt (h:bG ek ok w b M):b<w.heap.size:=by
 obtain⟨D,g,A,_⟩:=h;exact AP A
theorem bG.move (h:bG ek ok w b M)(A:w1.heap[b]?=w.heap[b]?):bG ek ok w1 b M:=by
 obtain⟨D,g,h1,r⟩:=h;exact⟨D,g,by rw[A];exact h1,r⟩
theorem bG.keep (h:bG ek ok w b M)(g:SU w.heap.size w w1):bG ek ok w1 b M:=h.move (g.block b h.lt)
theorem bG.new (w:tN)(g:b=w.heap.size):bG ek ok (w.alloc (.map #[] 0)) b []:=by
 subst g;exact⟨#[],0,Ih w _,MapKept.stamped_empty 0,by simp,by simp⟩
theorem wY {g:Array xV}(hm:g.toList.map (fun x=>(x.key,x.val))=M.map (fun p=>(ek p.1,SC .i64 p.2))){x:xV}(hx:g.toList[j]?=some x):∃p,M[j]?=some p/\x.key=ek p.1/\x.val=.int .i64 p.2:=by
 have h:=congrArg (fun l=>l[j]?) hm;simp only[jB,hx,S3]at h;cases hp:M[j]? with
 | none=>rw[hp]at h;cases h
 | some p=>
  rw[hp]at h;simp only[S3,SQ,SK.injEq]at h;exact⟨p,rfl,h.1,h.2⟩
theorem wZ (K:pW k ek ok){g:Array xV}(hm:g.toList.map (fun x=>(x.key,x.val))=M.map (fun p=>(ek p.1,SC .i64 p.2)))(ho:∀p∈M,ok p.1):∀x∈g.toList,∃l,keyOf fM k x.key=some l:=by
 intro x hx;obtain⟨j,A⟩:=iP.1 hx;obtain⟨p,hp,h1,_⟩:=wY hm A;rw[h1];exact K.key _ (ho p (gM hp))
theorem xA {A:Array xV}(hm:A.toList.map (fun x=>(x.key,x.val))=M.map (fun p=>(ek p.1,SC .i64 p.2))){s:κ}(h:∀x∈A.toList,x.key≠ek s):∀r∈M,r.1≠s:=by
 intro r hr e;obtain⟨j,D⟩:=iP.1 hr;have g:=congrArg (fun l=>l[j]?) hm;simp only[jB,D,S3]at g;cases hx:A.toList[j]? with
 | none=>rw[hx]at g;cases g
 | some x=>
  rw[hx]at g;simp only[S3,SQ,SK.injEq]at g;exact h x (gM hx) (by rw[g.1,e])
theorem qS {A:Array xV}{g:Nat}(hs:S1 A g)(hm:A.toList.map (fun x=>(x.key,x.val))=M.map (fun p=>(ek p.1,SC .i64 p.2))):(M.map SI).Nodup:=by
 have h1:A.toList.map (·.key)=M.map (fun p=>ek p.1):=by
  have:=congrArg (List.map SI) hm
  simpa[tJ,Function.comp_def]using this
 have h2:=hs.2.2;rw[h1]at h2;have:(M.map fun p=>ek p.1)=(M.map SI).map ek:=by simp[tJ,Function.comp_def]
 rw[this]at h2;exact (nT.1 h2).imp fun h e=>h (by rw[e])
theorem bG.look [DecidableEq κ](h:bG ek ok w b M)(K:pW k ek ok)(g:fM.underlying t=some (.map k e))(H:∀w,(zeroValue e).run fM w=.ok (.int .i64 0) w){s:κ}(A:ok s):
  (S6 t (.map (some b)) (ek s) false).run fM w=.ok (.int .i64 (aK M s)) w:=by
 obtain⟨I,G,D,hs,hm,ho⟩:=h;obtain⟨l,hl⟩:=K.key s A
 rcases K.law.find w hl I.toList (wZ K hm ho) with⟨h1,h2⟩|⟨j,x,h1,h2,h3⟩
 ·rw[iS (xA hm h2)];simp[S6,xU g,Rz D,K.law.check w _ hl,h1,H,S5]
 ·obtain⟨p,hp,L,J⟩:=wY hm h2;have:p.1=s:=K.inj _ _ (by rw[<- L,h3]);subst this;rw[pR (qS hs hm) (gM hp),<-J];simp[S6,xU g,Rz D,K.law.check w _ hl,h1,S5]
open Go.ChangeMaps (setBlock) in
theorem bG.enter [DecidableEq κ](h:bG ek ok w b M)(K:pW k ek ok)(S:fM.underlying t=some (.map k e))(Z:∀w,(zeroValue e).run fM w=.ok (.int .i64 0) w){s:κ}(D:ok s)(n:Int):
  ∃(st:Nat)(R o2:Obj)(M':List (κ×Int)),(S8 t (.map (some b)) (ek s)).run fM w=.ok (.tuple #[.int .i64 (aK M s),goInt st]) (setBlock w b R) /\
   (S6 t (.map (some b)) (ek s) false).run fM (setBlock w b R)=.ok (.int .i64 (aK M s)) (setBlock w b R) /\
   (S7 t (.map (some b)) (goInt st) (.int .i64 n)).run fM (setBlock w b R)=.ok () (setBlock w b o2) /\
   bG ek ok (setBlock w b o2) b M'/\(∀s',aK M' s'=if s=s' then n else aK M s')/\M'.length<=M.length+1:=by
 have hM:=h;obtain⟨A,g,G,hs,hm,ho⟩:=h;obtain⟨l,hl⟩:=K.key s D;have W:b<w.heap.size:=AP G;have same:∀o,(setBlock w b o).heap[b]?=some o:=fun o=>by simp[setBlock,W]
 have O:∀o Y,setBlock (setBlock w b o) b Y=setBlock w b Y:=fun o Y=>by simp[setBlock]
 have x8:A.size=M.length:=by have:=congrArg tK hm;simpa using this
 rcases K.law.find w hl A.toList (wZ K hm ho) with⟨h1,h2⟩|⟨j,x,h1,h2,h3⟩
 ·have h0:=xA hm h2;have t0:aK M s=0:=iS h0;have m1:bG ek ok (setBlock w b (.map (A.push ⟨ek s,.int .i64 0,g⟩) (g+1))) b (M++[(s,0)]):=
   ⟨_,_,same _,S2 hs h2,by simp[hm],fun p hp=>by
    rcases qV.1 hp with hp|hp
    ·exact ho p hp
    ·simp at hp;subst hp;exact D⟩
  refine⟨g,.map (A.push ⟨ek s,.int .i64 0,g⟩) (g+1),.map (A.push ⟨ek s,.int .i64 n,g⟩) (g+1),M++[(s,n)],?_,?_,?_,?_,?_,by simp⟩
  ·rw[t0];simp[S8,xU S,Rz G,K.law.check w false hl,h1,Z,S0 _ G,S5,setBlock]
  ·have:=m1.look K S Z D;rw[eG]at this
   simpa using this
  ·have H:(A.push ⟨ek s,.int .i64 0,g⟩).findIdx? (fun e=>((e.born:Nat):Int)==((g:Nat):Int))=some A.size:=by
    rw[SO];refine SN (l:=(A.push ⟨ek s,.int .i64 0,g⟩).toList) (j:=A.size) (e0:=⟨ek s,.int .i64 0,g⟩) ?_ (by simp);simp only[Ru,List.map_append,jO,List.map_nil];refine List.nodup_append.2 ⟨hs.2.1,by simp,fun a ha c hc L=>?_⟩;simp only[List.mem_singleton]at hc;obtain⟨x,hx,rfl⟩:=iM.1 ha;have:=hs.1 x hx;omega
   have h9:(A.push ⟨ek s,.int .i64 0,g⟩).modify A.size (fun e=>{ e with val:= .int .i64 n })=A.push ⟨ek s,.int .i64 n,g⟩:=by
    apply Ry
    rw[Rt,Ru,Ru,<-Array.length_toList,Go.WideElems.modify_last]
   have J:=same (.map (A.push ⟨ek s,.int .i64 0,g⟩) (g+1));have V:=O (.map (A.push ⟨ek s,.int .i64 0,g⟩) (g+1)) (.map (A.push ⟨ek s,.int .i64 n,g⟩) (g+1));generalize setBlock w b (.map (A.push ⟨ek s,.int .i64 0,g⟩) (g+1))=w1 at J V ⊢;rw[<- V];simp[S7,Rz J,asInt,asIntOf,goInt,H,h9,S0 _ J,S5,setBlock]
  ·exact⟨_,_,same _,S2 hs h2,by simp[hm],fun p hp=>by
    rcases qV.1 hp with hp|hp
    ·exact ho p hp
    ·simp at hp;subst hp;exact D⟩
  ·intro s';rw[eG]
   by_cases L:s=s'
   ·subst L;simp[t0]
   ·simp[L]
 ·obtain⟨p,hp,L,e2⟩:=wY hm h2;have:p.1=s:=K.inj _ _ (by rw[<- L,h3]);subst this;have hj:A[j]?=some x:=by simpa using h2
  have tp:=pR (qS hs hm) (gM hp);have y3:j<A.toList.length:=(gQ.1 h2).1;have T:A.modify j (fun e=>{ e with key:=ek p.1 })=A:=by
   apply Ry
   rw[Rt,SL _ _ _ _ h2];have:({ x with key:=ek p.1 }:xV)=x:=by rw[<- h3]
   rw[this];exact Go.WideElems.set_self _ _ _ h2
  have I:setBlock w b (.map A g)=w:=by
   have hx:w.heap.setIfInBounds b (.map A g)=w.heap:=by
    apply Array.ext_getElem?
    intro i;rw[Ro]
    by_cases hi:b=i
    ·subst hi;rw[if_pos rfl,if_pos W,G]
    ·rw[if_neg hi]
   simp only[setBlock,hx]
  have U:(A.modify j (fun e'=>{ e' with val:= .int .i64 n })).toList=A.toList.set j { x with val:= .int .i64 n }:=by
   rw[Rt,SL _ _ _ _ h2]
  refine⟨x.born,.map A g,.map (A.modify j (fun e'=>{ e' with val:= .int .i64 n })) g,M.set j (p.1,n),?_,?_,?_,?_,?_,by simp⟩
  ·rw[tp,<-e2];simp[S8,xU S,Rz G,K.law.check w false hl,h1,hj,h3,K.law.stays w hl,T,S0 _ G,S5,setBlock]
  ·rw[I];exact hM.look K S Z D
  ·rw[I];have H:A.findIdx? (fun e=>((e.born:Nat):Int)==((x.born:Nat):Int))=some j:=by
    rw[SO];exact SN hs.2.1 h2
   simp[S7,Rz G,asInt,asIntOf,goInt,H,S0 _ G,S5,setBlock]
  ·refine⟨_,_,same _,MapKept.stamped_modify hs _ _ (fun _ _=>rfl) (fun _ _ _=>rfl),?_,fun q hq=>?_⟩
   ·rw[U,sD,sD,hm,h3]
   ·rcases List.mem_or_eq_of_mem_set hq with hq|rfl
    ·exact ho q hq
    ·exact D
  ·intro s';rw[Cb hp]
   by_cases e3:p.1=s'
   ·subst e3;rw[if_pos rfl,if_pos rfl,tp];omega
   ·rw[if_neg e3,if_neg e3];omega
end
open Go.ChangeMaps (setBlock)
theorem Bn {L:List xV}(hn:(L.map (·.born)).Nodup){e:xV}(h:L[j]?=some e):L.filter (fun x=>!(x.born==e.born))=L.eraseIdx j:=by
 induction L generalizing j with
 | nil=>simp at h
 | cons a l ih=>
  simp only[jO,oW]at hn;cases j with
  | zero=>
   simp at h;subst h;rw[oU];simp only[beq_self_eq_true,Bool.not_true,Bool.false_eq_true,if_false,List.eraseIdx_cons_zero];refine List.filter_eq_self.2 fun x hx=>?_;have:x.born≠a.born:=fun g=>hn.1 (iM.2 ⟨x,hx,g⟩)
   simpa using this
  | succ j=>
   have A:l[j]?=some e:=by simpa using h
   have hne:a.born≠e.born:=fun g=>hn.1 (iM.2 ⟨e,gM A,g.symm⟩);rw[oU,if_pos (by simpa using hne),ih hn.2 A,mO]
theorem Ay {α:Type}{l:List α}{x:α}(h:l[j]?=some x):l.Perm (x::l.eraseIdx j):=by
 induction l generalizing j with
 | nil=>simp at h
 | cons a l ih=>
  cases j with
  | zero=>simp at h;subst h;simp
  | succ j=>
   rw[mO];exact ((ih (by simpa using h)).cons a).trans (tL.swap x a _)
theorem A9 (g:Array xV)(seen:Array Nat)(b:Nat):(leftOf g (seen.push b)).toList=(leftOf g seen).toList.filter (fun x=>!(x.born==b)):=by
 unfold leftOf;rw[Rp,Rp,List.filter_filter]
 congr 1
 funext x
 rw[Array.contains_push];cases seen.contains x.born<;>cases (x.born==b)<;>rfl
def eL {κ:Type}(ek:κ->tM)(ok:κ->Prop)(w:tN)(b r:Nat)(M rest:List (κ×Int)):Prop:=
 ∃es clock seen,w.heap[b]?=some (.map es clock)/\w.heap[r]?=some (.mapIter (some b) clock seen clock)/\S1 es clock/\es.toList.map (fun x=>(x.key,x.val))=M.map (fun p=>(ek p.1,SC .i64 p.2)) /\
  (∀p∈M,ok p.1)/\(leftOf es seen).toList.map (fun x=>(x.key,x.val))=rest.map (fun p=>(ek p.1,SC .i64 p.2))/\b≠r
section
variable {κ:Type}{ek:κ->tM}{ok:κ->Prop}{w:tN}{b r:Nat}{M rest:List (κ×Int)}
theorem eL.move (h:eL ek ok w b r M rest)(A:w1.heap[b]?=w.heap[b]?)(hr:w1.heap[r]?=w.heap[r]?):eL ek ok w1 b r M rest:=by
 obtain⟨D,g,seen,h1,h2,h3⟩:=h;exact⟨D,g,seen,by rw[A];exact h1,by rw[hr];exact h2,h3⟩
theorem eL.lt (h:eL ek ok w b r M rest):b<w.heap.size/\r<w.heap.size:=by
 obtain⟨A,g,seen,h1,h2,_⟩:=h;exact⟨AP h1,AP h2⟩
theorem eL.keep (h:eL ek ok w b r M rest)(g:SU w.heap.size w w1):eL ek ok w1 b r M rest:=h.move (g.block b h.lt.1) (g.block r h.lt.2)
theorem eL.aU {g:Option Nat}(h:eL ek ok w b r M rest)(hg:w.grownBy w1 g)(hr:∀k,g=some k->b≠k/\r≠k):eL ek ok w1 b r M rest:=
 h.move (hg.block b h.lt.1 (fun e=>(hr _ e.symm).1 rfl)) (hg.block r h.lt.2 (fun e=>(hr _ e.symm).2 rfl))
theorem eL.start {t k e:E8}(h:bG ek ok w b M)(H:fM.underlying t=some (.map k e)):∃w',(S9 t (.map (some b))).run fM w=.ok (.pointer (some ⟨w.heap.size,0,none⟩)) w'/\eL ek ok w' b w.heap.size M M/\SU w.heap.size w w'/\w'.heap.size=w.heap.size+1:=by
 have D:=h.lt;obtain⟨A,g,G,hs,hm,ho⟩:=h;refine⟨w.alloc (.mapIter (some b) g #[] g),?_,⟨A,g,#[],?_,Ih w _,hs,hm,ho,?_,by omega⟩,aH (SU.refl _ _) _,by simp⟩
 ·simp[S9,xU H,Rz G,S5,newObj,Sem.run]
 ·rw[SU.heap_alloc _ _ _ D];exact G
 ·have:(leftOf A #[]).toList=A.toList:=by unfold leftOf;simp
  rw[this];exact hm
theorem eL.next (h:eL ek ok w b r M rest)(O:E8):
  (rest=[]/\(SB (.pointer (some ⟨r,0,none⟩)) false O).run fM w=.ok (.tuple #[.bool false]) w) \/
  ∃(p:κ×Int)(A:List (κ×Int))(w':tN),rest.Perm (p::A)/\(SB (.pointer (some ⟨r,0,none⟩)) false O).run fM w=.ok (.tuple #[.bool true,ek p.1,.int .i64 p.2]) w'/\eL ek ok w' b r M A /\
   (SA (.pointer (some ⟨r,0,none⟩))).run fM w'=.ok (.tuple #[ek p.1,.int .i64 p.2]) w'/\Bx r w w'/\w'.heap.size=w.heap.size/\A.length+1=rest.length:=by
 obtain⟨G,g,seen,h1,h2,hs,hm,ho,hl,L⟩:=h
 rcases run_next_at (P:=fM) w O r b g g seen G g h2 h1 hs.1 (Nat.le_refl _) with⟨h0,D⟩|⟨x,hx,w1,T,D⟩
 ·left
  refine⟨?_,D⟩;have:(leftOf G seen).toList=[]:=List.eq_nil_of_length_eq_zero (by simpa using h0);rw[this]at hl;exact List.map_eq_nil_iff.1 hl.symm
 ·right
  obtain⟨j,Y⟩:=iP.1 hx;obtain⟨p,hp,e1,e2⟩:∃p,rest[j]?=some p/\x.key=ek p.1/\x.val=.int .i64 p.2:=by
   have I:=congrArg (fun l=>l[j]?) hl;simp only[jB,Y,S3]at I;cases hp:rest[j]? with
   | none=>rw[hp]at I;cases I
   | some p=>
    rw[hp]at I;simp only[S3,SQ,SK.injEq]at I;exact⟨p,rfl,I.1,I.2⟩
  have S:x∈G.toList:=by
   unfold leftOf at hx;rw[Rp]at hx;exact (pU.1 hx).1
  have W:=(gQ.1 hp);obtain⟨R,_⟩:=W;have V:((leftOf G seen).toList.map (·.born)).Nodup:=by
   unfold leftOf;rw[Rp];exact hs.2.1.sublist ((nA (l:=G.toList)).map _)
  rw[e1,e2]at D;have H:Bx r w w1/\w1.heap=w.heap:=by
   rcases T with rfl|rfl
   ·exact⟨Bx.refl _ _,rfl⟩
   ·exact⟨(Bx.refl _ _).drew,rfl⟩
  have U:r<w1.heap.size:=by rw[H.2];exact AP h2
  have Z:Bx r w (setBlock w1 r (.mapIter (some b) g (seen.push x.born) g)):=by
   refine⟨H.1.os,H.1.tape,H.1.output,by simp[setBlock,H.2],fun k hk hne=>?_⟩;simp only[setBlock,Ro];rw[if_neg (fun e=>hne e.symm),H.2]
  have hat:(setBlock w1 r (.mapIter (some b) g (seen.push x.born) g)).heap[r]?=some (.mapIter (some b) g (seen.push x.born) g):=by simp[setBlock,U]
  have J:(setBlock w1 r (.mapIter (some b) g (seen.push x.born) g)).heap[b]?=some (.map G g):=by rw[Z.block b (AP h1) L];exact h1
  refine⟨p,rest.eraseIdx j,_,?_,D,⟨G,g,seen.push x.born,J,hat,hs,hm,ho,?_,L⟩,?_,Z,by simp[setBlock,H.2],?_⟩
  ·exact Ay hp
  ·rw[A9,Bn V Y,SM,SM,hl]
  ·have:=run_entry_at (P:=fM) _ r b g seen G g x hat J S hs.2.1;rw[e1,e2]at this;exact this
  ·rw[List.length_eraseIdx_of_lt R];omega
end
def nG (n:Int):Prop:=-4611686018427387904<=n/\n<=4611686018427387904
theorem Ck {n:Int}(h:nG n):(Lit.int .i64 n).wf=true:=by
 obtain⟨h1,h2⟩:=h;have A:IntKind.i64.min = -9223372036854775808:=by decide
 have g:IntKind.i64.max=9223372036854775807:=by decide
 simp only[Lit.wf,A,g];simp;omega
abbrev xS (s:Sp):tM:= .agg #[.int .i64 s.1.1,.int .i64 s.1.2,.int .i64 s.2.1,.int .i64 s.2.2]
abbrev gC (s:Int×Int):tM:= .agg #[.int .i64 s.1,.int .i64 s.2]
def spOk (s:Sp):Prop:=nG s.1.1/\nG s.1.2/\nG s.2.1/\nG s.2.2
def thOk (s:Int×Int):Prop:=nG s.1/\nG s.2
theorem Nw:∃m,fM.types.size=m+3:=⟨fM.types.size-3,by kernel_rfl⟩
theorem RZ:SR fM 233:=JK Bd (m:=6) (by omega) (of_decide_eq_true (by kernel_rfl)) (by kernel_rfl) (by kernel_rfl)
theorem Ra:SR fM 131:=JK Bd (m:=6) (by omega) (of_decide_eq_true (by kernel_rfl)) (by kernel_rfl) (by kernel_rfl)
theorem CJ (D:Nat){n:Int}(h:(Lit.int .i64 n).wf=true):fM.keyLits (D+1) 3 [.int .i64 n]=some [.int .i64 n]:=by
 simp[SP,Tryz.underlying3,h]
theorem Rb (D:Nat){a b:Int}(ha:(Lit.int .i64 a).wf=true)(g:(Lit.int .i64 b).wf=true):fM.keyLits (D+2) 32 [.int .i64 a,.int .i64 b]=some [.int .i64 a,.int .i64 b]:=by
 have c2:fM.cellsOf 32=2:=by kernel_rfl
 have c3:fM.cellsOf 3=1:=by kernel_rfl
 unfold SP;rw[Tryz.underlying32];simp only;rw[if_pos ⟨c2.symm,by kernel_rfl⟩];simp[c3,CJ _ ha,CJ _ g]
theorem RX (s:Sp)(h:spOk s):∃l,keyOf fM 233 (xS s)=some l:=by
 obtain⟨h0,h1,h2,h3⟩:=h;have w0:=Ck h0;have w1:=Ck h1;have A:=Ck h2;have g:=Ck h3;have D:fM.keyType 233=true:=by kernel_rfl
 have c1:fM.cellsOf 233=4:=by kernel_rfl
 have c2:fM.cellsOf 32=2:=by kernel_rfl
 have c3:fM.cellsOf 3=1:=by kernel_rfl
 obtain⟨m,hm⟩:=Nw;unfold keyOf;rw[fQ];simp only[D,Bool.true_and];have hf:(xS s).formed fM 233=true:=by
  simp[SE,fQ,c1]
 rw[hf,if_pos rfl,hm];unfold SP;rw[fQ];simp only;rw[if_pos ⟨by rw[c1];simp[SD],by kernel_rfl⟩];simp[c2,c3,SD,CJ _ w0,CJ _ w1,Rb _ A g]
theorem RY (s:Int×Int)(h:thOk s):∃l,keyOf fM 131 (gC s)=some l:=by
 obtain⟨h0,h1⟩:=h;have w0:=Ck h0;have w1:=Ck h1;have g:fM.keyType 131=true:=by kernel_rfl
 have c1:fM.cellsOf 131=2:=by kernel_rfl
 have c3:fM.cellsOf 3=1:=by kernel_rfl
 obtain⟨m,hm⟩:=Nw;unfold keyOf;rw[gD];simp only[g,Bool.true_and];have hf:(gC s).formed fM 131=true:=by
  simp[SE,gD,c1]
 rw[hf,if_pos rfl,hm];unfold SP;rw[gD];simp only;rw[if_pos ⟨by rw[c1];simp[SD],by kernel_rfl⟩];simp[c3,SD,CJ _ w0,CJ _ w1]
theorem Po:pW 233 xS spOk:=⟨RZ,RX,fun s s' h=>by
 simp at h;exact SJ (SJ h.1 h.2.1) (SJ h.2.2.1 h.2.2.2)⟩
theorem j6:pW 131 gC thOk:=⟨Ra,RY,fun s s' h=>by
 simp at h;exact SJ h.1 h.2⟩
open Go.ChangeMaps (setBlock)
theorem eR {w W:tN}{b:Nat}{o:Obj}(h:SU B w W)(A:B<=b):SU B w (setBlock W b o):=by
 refine⟨h.os,h.tape,h.output,by simp[setBlock,h.size],fun k g=>?_⟩;simp only[setBlock,Ro];rw[if_neg (by omega)];exact h.block k g
theorem oO (W:tN)(b:Nat)(o:Obj):(setBlock W b o).heap.size=W.heap.size:=by simp[setBlock]
def wW (w:tN)(b r:Nat):Nat:=
 match w.heap[b]?,w.heap[r]? with
 | some (.map es _),some (.mapIter _ _ seen _)=>(leftOf es seen).size
 | _,_=>0
section
variable {κ:Type}{ek:κ->tM}{ok:κ->Prop}{w:tN}{b r:Nat}{M left:List (κ×Int)}
theorem eL.count (h:eL ek ok w b r M left):wW w b r=left.length:=by
 obtain⟨A,g,seen,h1,h2,_,_,_,hl,_⟩:=h;unfold wW;rw[h1,h2];have:=congrArg tK hl
 simpa using this
theorem eL.nodup (h:eL ek ok w b r M left):(M.map SI).Nodup:=by
 obtain⟨A,g,seen,_,_,hs,hm,_⟩:=h;exact qS hs hm
variable {ops:Array Oper}{rest:List Oper}{o:Oper}{a:Act}{Q:Exit->Act->tN->Prop}
theorem GK (w:tN)(hg:o.guard=none)(m:Operand)(t:E8)(A:o.op=Op.range t m)(k e:E8)(J:fM.underlying t=some (.map k e))(b:Nat)(M:List (κ×Int))(hm:a.eval m=.map (some b))(h:bG ek ok w b M)
  (L:∀w',eL ek ok w' b w.heap.size M M->SU w.heap.size w w'->w'.heap.size=w.heap.size+1->wpList fM ops Q rest (a.put o.dst (.pointer (some ⟨w.heap.size,0,none⟩))) w'):wpList fM ops Q (o::rest) a w:=by
 refine M1 hg fun O D=>?_;obtain⟨w',g,I,H,G⟩:=eL.start h J;unfold Oper.wp;simp[execOp,A,hm,g,S5];exact D _ _ (L w' I H G)
theorem IK (w:tN)(hg:o.guard=none)(it:Operand)(G:o.op=Op.next it false)(b r:Nat)(M left:List (κ×Int))(H:a.eval it=.pointer (some ⟨r,0,none⟩))(h:eL ek ok w b r M left)
  (D:left=[]->wpList fM ops Q rest (a.put o.dst (.tuple #[.bool false])) w)
  (A:∀(p:κ×Int)(left':List (κ×Int))(w':tN),left.Perm (p::left')->eL ek ok w' b r M left'->(SA (.pointer (some ⟨r,0,none⟩))).run fM w'=.ok (.tuple #[ek p.1,.int .i64 p.2]) w'->Bx r w w'->w'.heap.size=w.heap.size->left'.length+1=left.length ->
   wpList fM ops Q rest (a.put o.dst (.tuple #[.bool true,ek p.1,.int .i64 p.2])) w'):wpList fM ops Q (o::rest) a w:=by
 refine M1 hg fun L I=>?_;unfold Oper.wp
 rcases h.next o.type with⟨h0,g⟩|⟨p,left',w',hp,g,hr,J,hx,hs,hl⟩
 ·simp[execOp,G,H,g,S5];exact I _ _ (D h0)
 ·simp[execOp,G,H,g,S5];exact I _ _ (A p left' w' hp hr J hx hs hl)
end
section
variable {K:Type}{lt:K->K->Bool}
theorem collected [DecidableEq K](O:pB lt){l M L l':List (K×Int)}(hn:(M.map SI).Nodup)(D:∀s,aK M s=aK l s)(G:L.Perm (M.filter fun r=>decide (r.2≠0)))(hp:l'.Perm L)(hs:l'.Pairwise (fun p q=>lt q.1 p.1=false)):l'=aO lt l:=by
 have g:=hp.trans G;have A:(l'.map SI).Nodup:=(g.map SI).nodup_iff.2 (hn.sublist ((nA (l:=M)).map _));refine n8 O ?_ ?_ fun s=>?_
 ·have h1:l'.Pairwise fun p q=>p.1≠q.1:=nT.1 A;refine (List.Pairwise.and hs h1).imp fun {a b} ⟨h2,h3⟩=>?_;cases e:lt a.1 b.1
  ·exact absurd (O.tri _ _ e h2) h3
  ·rfl
 ·intro r hr;have:=(pU.1 (g.mem_iff.1 hr)).2
  simpa using this
 ·rw[G5 g,xP,D]
theorem zZ {M done left left' L:List (K×Int)}{p:K×Int}(h:M.Perm (done++left))(hp:left.Perm (p::left'))(g:L.Perm (done.filter fun r=>decide (r.2≠0)))(h0:p.2≠0):
  M.Perm ((done++[p])++left')/\(L++[p]).Perm ((done++[p]).filter fun r=>decide (r.2≠0)):=by
 constructor
 ·rw[nX];exact h.trans (hp.append_left done)
 ·rw[nB];have:[p].filter (fun r=>decide (r.2≠0))=[p]:=by simp[h0]
  rw[this];exact g.append_right _
theorem Au {M done left left' L:List (K×Int)}{p:K×Int}(h:M.Perm (done++left))(hp:left.Perm (p::left'))(g:L.Perm (done.filter fun r=>decide (r.2≠0)))(h0:p.2=0):
  M.Perm ((done++[p])++left')/\L.Perm ((done++[p]).filter fun r=>decide (r.2≠0)):=by
 constructor
 ·rw[nX];exact h.trans (hp.append_left done)
 ·rw[nB];have:[p].filter (fun r=>decide (r.2≠0))=[]:=by simp[h0]
  rw[this,List.append_nil];exact g
end
theorem Ow (w:tN):Df fM 214 #[.int .u64 0] w fun e w'=>(∃r:Int,e=.returned (.int .i64 r))/\w'=w:=by
 go_enter Tryz.func214,Tryz.ntmps214;go_wp2_with fail;go_ret;exact⟨⟨_,rfl⟩,rfl⟩
theorem Nt (w:tN):Df fM 166 #[.int .u64 0] w fun e w'=>(∃r:Int,e=.returned (.int .i64 r))/\w'=w:=by
 go_enter Tryz.func166,Tryz.ntmps166
 go_wp2_with (go_at_call 214;refine (Ow _).mono ?_;rintro e w' ⟨⟨r,rfl⟩,rfl⟩)
 go_ret;exact⟨⟨_,rfl⟩,rfl⟩
theorem GV (g:tM)(w:tN):
  Df fM 270 #[.slice none 0 0,.int .i64 0,.int .i64 0,g] w fun e w'=>e=.returned (.tuple #[])/\w'=w:=by
 go_enter Tryz.func270,Tryz.ntmps270;go_wp2_with fail;refine AW 1 ?_;rw[Fj];go_wp2_with fail
 go_end0
 exact⟨rfl,rfl⟩
theorem N5 (r:Int)(g:tM)(w:tN):
  Df fM 259 #[.slice none 0 0,.int .i64 0,.int .i64 0,.int .i64 r,g] w fun e w'=>e=.returned (.tuple #[])/\w'=w:=by
 go_enter Tryz.func259,Tryz.ntmps259;go_wp2_with fail;refine AW 1 ?_;rw[Fj];go_wp2_with fail;refine (GV _ _).mono ?_;rintro e w1 ⟨rfl,rfl⟩;go_wp2_with fail
 (try simp only[Exit.inBlock,Exit.then])
 refine Qz (Nk rfl _ _ _) rfl ?_;exact⟨rfl,rfl⟩
theorem LS (g:tM)(w:tN):Df fM 238 #[.slice none 0 0,g] w fun e w'=>e=.returned (.tuple #[])/\w'=w:=by
 go_enter Tryz.func238,Tryz.ntmps238
 go_wp2_with (first|(go_at_call 166;refine (Nt _).mono ?_;rintro e w' ⟨⟨r,rfl⟩,rfl⟩)|(go_at_call 259;refine (N5 _ _ _).mono ?_;rintro e w1 ⟨rfl,rfl⟩))
 go_end0
 exact⟨rfl,rfl⟩
theorem Ev (g:tM)(w:tN):
  Df fM 247 #[.slice none 0 0,.int .i64 0,.int .i64 0,g] w fun e w'=>e=.returned (.tuple #[])/\w'=w:=by
 go_enter Tryz.func247,Tryz.ntmps247;go_wp2_with fail;refine AW 1 ?_;rw[Fj];go_wp2_with fail
 go_end0
 exact⟨rfl,rfl⟩
theorem L4 (r:Int)(g:tM)(w:tN):
  Df fM 227 #[.slice none 0 0,.int .i64 0,.int .i64 0,.int .i64 r,g] w fun e w'=>e=.returned (.tuple #[])/\w'=w:=by
 go_enter Tryz.func227,Tryz.ntmps227;go_wp2_with fail;refine AW 1 ?_;rw[Fj];go_wp2_with fail;refine (Ev _ _).mono ?_;rintro e w1 ⟨rfl,rfl⟩;go_wp2_with fail
 (try simp only[Exit.inBlock,Exit.then])
 refine Qz (Nk rfl _ _ _) rfl ?_;exact⟨rfl,rfl⟩
theorem JP (g:tM)(w:tN):Df fM 177 #[.slice none 0 0,g] w fun e w'=>e=.returned (.tuple #[])/\w'=w:=by
 go_enter Tryz.func177,Tryz.ntmps177
 go_wp2_with (first|(go_at_call 166;refine (Nt _).mono ?_;rintro e w' ⟨⟨r,rfl⟩,rfl⟩)|(go_at_call 227;refine (L4 _ _ _).mono ?_;rintro e w1 ⟨rfl,rfl⟩))
 go_end0
 exact⟨rfl,rfl⟩
open Go.Shelf Go.Lib
section
variable {α:Type}[Inhabited α]
theorem D8 {enc:α->List tM}{k:Nat}(D:∀x,(enc x).length=k){l:List α}{i:Nat}{x:α}(h:l[i]?=some x)(g:j<k):(Re enc k l.toArray)[i*k+j]?=(enc x)[j]?:=by
 have hi:=(gQ.1 h).1;have A:i*k+j<l.toArray.size*k:=by
  have:(i+1)*k<=l.length*k:=SF k hi;rw[SH]at this;simp;omega
 have H:(i*k+j) / k=i:=by
  rw[SG,Nat.mul_add_div (by omega),Nat.div_eq_of_lt g,Nat.add_zero]
 have G:(i*k+j)%k=j:=by
  rw[SG,Nat.mul_add_mod,Nat.mod_eq_of_lt g]
 have hx:l.toArray[i]! = x:=by
  rw[getElem!_pos l.toArray i (by simpa using hi)]
  simpa using (gQ.1 h).2
 simp only[Re,Array.getElem?_map];rw[Array.getElem?_range,if_pos A,S3,H,G,hx];rw[getElem!_pos (enc x) j (by rw[D];exact g),gX (by rw[D];exact g)]
theorem C7 {enc:α->List tM}{k:Nat}{w:tN}{g:Nat}{c:Array tM}{t:E8}{l:List α}(H:∀x,(enc x).length=k)(h:Bk w g c t)(hf:jJ enc k c l l.length):Sort.HoldsK enc k w g 0 l.toArray:=by
 intro j A;rw[Rm]at A;have G:j<l.length*k:=by simpa using A
 have D:0<k:=by
  rcases Nat.eq_zero_or_pos k with e|e
  ·subst e;omega
  ·exact e
 have e:j=j / k*k+j%k:=by rw[SG];exact (Nat.div_add_mod j k).symm
 have hq:j / k<l.length:=Nat.div_lt_of_lt_mul (by rw[SG];exact G);have hr:j%k<k:=Nat.mod_lt _ D;have h1:=hf _ _ hq (gX hq) _ hr;have h2:=D8 H (gX hq) hr;rw[<- e]at h1 h2;refine⟨?_,h.free _⟩;rw[Nat.zero_add];have hs:j<(Re enc k l.toArray).size:=by rw[Rm];exact A
 have h3:(Re enc k l.toArray)[j]?=some ((Re enc k l.toArray)[j]!):=by rw[getElem!_pos _ j hs,Rq hs]
 rw[h2]at h3;exact h.cell (h1.trans h3)
theorem GR {enc:α->List tM}{k:Nat}(A:∀x,(enc x).length=k){c:Array tM}{l l':List α}(hl:l'.length=l.length)(hf:l.length*k<=c.size):jJ enc k (Rh id 0 (Re enc k l'.toArray) c) l' l'.length:=by
 intro i x hi hx j D;have g:i*k+j<l'.length*k:=by
  have:(i+1)*k<=l'.length*k:=SF k hi;rw[SH]at this;omega
 have G:i*k+j<c.size:=by rw[hl]at g;omega
 have h2:=D8 A hx D;have hs:i*k+j<(Re enc k l'.toArray).size:=by rw[Rm];simpa using g
 rw[<- h2];unfold Rh;rw[Array.getElem?_mapIdx,Rq G,S3,if_pos ⟨by omega,by omega⟩,Nat.sub_zero]
 show some ((Re enc k l'.toArray)[i*k+j]!)=_
 rw[getElem!_pos (Re enc k l'.toArray) (i*k+j) hs,Rq hs]
theorem Fq {enc:α->List tM}{k:Nat}{t:E8}{w:tN}{l:List α}(G:Ren)(L:SlLaysF0.n6 fM G)(I:∀x,(enc x).length=k)(h1:∀x,∀u∈enc x,u.oneCell'=true)
  (aE:∀w,(isAgg (G.t 24)).run fM w=.ok true w) (zE:∀w,(Go.sizeOf (G.t 24)).run fM w=.ok k w) (U:α->α->Int) (hO:Rn (ltOf U)) (g:Nat) (eg:∀args w,(callFunc g args).run fM w=.ok (.enter g args) w)
  (h9:∀(x y:α)(W:tN),Df fM g #[.agg (enc x).toArray,.agg (enc y).toArray] W fun e w'=>e=.returned (.int .i64 (U x y))/\∃q x3,w'=Sort.grow (W.drewN q) x3)
  (R:Df fM (G.f 6) #[.slice none 0 0,.func (.func g) #[] #[]] w fun e w'=>e=.returned (.tuple #[])/\w'=w) (h:pY enc k t w B v l) (hl:l.length<=2097152) (hB:B<=w.heap.size):
  Df fM (G.f 6) #[v,.func (.func g) #[] #[]] w fun e w'=>e=.returned (.tuple #[])/\∃l':List α,l'.Perm l/\l'.Pairwise (fun p q=>ltOf U q p=false)/\pY enc k t w' B v l'/\SU B w w':=by
 rcases fX h I with⟨rfl,rfl⟩|⟨b,V,c,rfl,hg,T,hs,hc,hm,S⟩
 ·refine R.mono ?_;rintro e w' ⟨rfl,rfl⟩;exact⟨rfl,[],tL.refl _,by simp,h,SU.refl _ _⟩
 ·have hH:=C7 I T S;have J:=AnyQ.slices_SortFunc L k aE zE enc I h1 U hO g #[] b 0 V l.toArray w eg (fun m os dk _ x y=>by simpa using h9 x y _) hH T.lt (by simp;omega);have x4:l.toArray.size=l.length:=by simp
  rw[x4]at J;refine J.mono ?_;rintro e w' ⟨rfl,A,n,os,hp,Y,rfl⟩;obtain⟨p1,_,p3⟩:=hp;have hd:A.size=l.length:=by rw[p1];simp
  have hx:A.extract 0 l.length=A:=by rw[<- hd];simp
  have O:A.toList.Perm l:=by
   rw[hx]at p3
   simpa using p3
  have D:A.toList.length=l.length:=by simpa using hd
  have x0:=T.lt;have x1:(sortWorldK enc k w b 0 n A os).heap[b]?=some (.cells (Rh id 0 (Re enc k A) c) t (0,0)):=by
   have x9:w.heap[b]?=some (.cells c t (0,0)):=T;have Z:b<(RW enc k (Rg w n) b 0 A).heap.size:=by
    simp only[RW,Rk,Ri];simpa[Rg]using x0
   show ((RW enc k (Rg w n) b 0 A).heap++os)[b]?=_
   rw[Rv Z];simp only[RW,Rk,Ri,Rg,Rx,if_pos,x9,S3]
   rfl
  have x7:(Rh id 0 (Re enc k A) c).size=V*k:=by simp[Rh,hs]
  have hfl:jJ enc k (Rh id 0 (Re enc k A) c) A.toList A.toList.length:=by
   have:=GR I (c:=c) (l:=l) (l':=A.toList) D (by rw[hs];exact SF k hc)
   simpa using this
  have H:=yS (enc:=enc) (B:=B) (w:=sortWorldK enc k w b 0 n A os) x1 hfl I x7 (by rw[D];exact hc) hm hg;refine⟨rfl,A.toList,O,?_,by rw[D]at H;simpa only[D]using H,?_⟩
  ·refine List.pairwise_iff_getElem.2 fun i j hi hj x6=>?_;have:=Y i j (by omega) x6 (by omega);rw[getElem!_pos A i (by simpa using hi),getElem!_pos A j (by simpa using hj)]at this
   simpa using this
  ·refine⟨rfl,rfl,rfl,?_,fun q hq=>?_⟩
   ·show w.heap.size<=((RW enc k (Rg w n) b 0 A).heap++os).size
    simp only[RW,Rk,Ri,Rg];simp
   ·show ((RW enc k (Rg w n) b 0 A).heap++os)[q]?=_
    have x5:q<(RW enc k (Rg w n) b 0 A).heap.size:=by
     simp only[RW,Rk,Ri,Rg];simp;omega
    rw[Rv x5];simp only[RW,Rk,Ri,Rg,Rx];rw[if_neg (by omega)]
end
theorem Ll {α K:Type}{lt:K->K->Bool}[DecidableEq K](O:pB lt)(key:α->K){D:α->α->Int}(h:∀x y,ltOf D x y=lt (key x) (key y)):Rn (ltOf D) where
 irrefl x:=by rw[h];exact O.irr _
 trans x y z h1 h2:=by rw[h]at *;exact O.trans _ _ _ h1 h2
 ntrans x y z h1 h2:=by
  rw[h]at *;cases e:lt (key x) (key z)
  ·rfl
  ·by_cases g:key x=key y
   ·rw[<- g]at h2;rw[e]at h2;cases h2
   ·have A:lt (key y) (key x)=true:=by
     cases G:lt (key y) (key x)
     ·exact absurd (O.tri _ _ h1 G) g
     ·rfl
    have:=O.trans _ _ _ A e;rw[this]at h2;cases h2
theorem LR {w:tN}{l:List Rw}(h:aC w B v l)(hl:l.length<=2097152)(G:B<=w.heap.size):
  Df fM 238 #[v,.func (.func 91) #[] #[]] w fun e w'=>e=.returned (.tuple #[])/\∃l':List Rw,l'.Perm l/\l'.Pairwise (fun p q=>aW q.1 p.1=false)/\aC w' B v l'/\SU B w w':=by
 have g:∀x y:Rw,ltOf (fun x y:Rw=>iZ x.1 y.1) x y=aW x.1 y.1:=fun x y=>zA _ _;have:=Fq sortR_ren sortR jP (fun x u D=>by simp at D;rcases D with rfl|rfl|rfl|rfl|rfl<;>rfl) Tryz.isAgg55 Tryz.sizeOf55 (fun x y:Rw=>iZ x.1 y.1) (Ll fG (fun x:Rw=>x.1) g) 91 (enters_of Tryz.func91 (by kernel_rfl) rfl)
  (fun x y W=>by
   refine (yB _ _ _ _ _ _ _ _ _ _ W).mono ?_;rintro e w' ⟨A,hg⟩;exact⟨by rw[A,Hd],Hj hg⟩) (LS _ _) h hl G
 refine this.mono ?_;rintro e w' ⟨A,l',h1,h2,h3,h4⟩;exact⟨A,l',h1,h2.imp (fun {a b} h=>by rw[g]at h;exact h),h3,h4⟩
theorem LQ {w:tN}{l:List It}(h:aQ w B v l)(hl:l.length<=2097152)(G:B<=w.heap.size):
  Df fM 177 #[v,.func (.func 143) #[] #[]] w fun e w'=>e=.returned (.tuple #[])/\∃l':List It,l'.Perm l/\l'.Pairwise (fun p q=>bJ q.1 p.1=false)/\aQ w' B v l'/\SU B w w':=by
 have g:∀x y:It,ltOf (fun x y:It=>y9 x.1 y.1) x y=bJ x.1 y.1:=fun x y=>He _ _;have:=Fq sortI_ren sortI nI (fun x u D=>by simp at D;rcases D with rfl|rfl|rfl<;>rfl) Tryz.isAgg98 Tryz.sizeOf98 (fun x y:It=>y9 x.1 y.1) (Ll cQ (fun x:It=>x.1) g) 143 (enters_of Tryz.func143 (by kernel_rfl) rfl)
  (fun x y W=>by
   refine (yA _ _ _ _ _ _ W).mono ?_;rintro e w' ⟨A,hg⟩;exact⟨by rw[A,Hf],Hj hg⟩) (JP _ _) h hl G
 refine this.mono ?_;rintro e w' ⟨A,l',h1,h2,h3,h4⟩;exact⟨A,l',h1,h2.imp (fun {a b} h=>by rw[g]at h;exact h),h3,h4⟩
end Go.Proofs.YtbdpcngcbnoioaaGreatDoor
