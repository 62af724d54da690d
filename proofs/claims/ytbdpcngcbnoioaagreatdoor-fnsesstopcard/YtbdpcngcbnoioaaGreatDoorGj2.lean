import Derived.Test.YtbdpcngcbnoioaaGreatDoorMul
import Derived.Shelf.Spec.BitsCarry
import Derived.Laws.Bits64
import Derived.Test.YtbdpcngcbnoioaaGreatDoorGm1
set_option maxRecDepth 100000
set_option maxHeartbeats 4000000
namespace Go.Proofs.YtbdpcngcbnoioaaGreatDoor
open Go.RowKit
open Go renaming IntKind->fM,run_underlying->fQ,bodyPost_ret->gD,World->gM,lt_of_block->gQ,Result->gX,MapEntry->iM,Value->iP,TypeId->jB,heap_alloc_new->jO,Calls->mO,wpList_plain->nA
open Go.Proofs.Tryz renaming prog->nB,results234->nT,ntmps234->nX,func234->oU,results232->oW,ntmps232->pU,func232->qV
open Go.MapKept renaming run_getObj_map->sD,run_setObj_map->tJ,Stamped->tK,stamped_modify->tL,stamped_push->tM
open _root_.List renaming mem_of_getElem?->tN,mem_iff_getElem?->xU,map_set->xV,getElem?_map->AP,mem_or_eq_of_mem_set->AW,mem_append->C5,map_map->Df
open Go.IntKind renaming wrap_u64->E8,u64->Fj
open Go.Result renaming andThen->Fl
open Go.ChangeMaps renaming modify_eq_set->Ih,map_eraseIdx->JK
open Go.Instr renaming mapUpdate->M1,lookup->Nk,range->Qz,entry->RW,next->Re
open _root_.Option renaming map_some->Rg,some->Rh
open _root_.Array renaming toList_modify->Ri,toList_filter->Rk,ext'->Rm
open Go.RowKit.Below renaming refl->Rn
open Go.RowKit renaming Below->Ro
open _root_.Option.some renaming injEq->Rp
open _root_.Prod renaming fst->Rq,mk->Rt
variable {m n:Int}{w1:gM}
abbrev wv (h l:Nat):iP:= .agg #[.int .u64 (h:Int),.int .u64 (l:Int)]
theorem Cq (x y c:Nat)(g:c<=1)(w:gM):
  (callFunc 257 #[.int .u64 x,.int .u64 y,.int .u64 c]).run nB w =
   .ok (.value (.tuple #[.int .u64 (((x+y+c)%18446744073709551616:Nat):Int),.int .u64 (((x+y+c) / 18446744073709551616:Nat):Int)])) w:=by
 rw[run_callFunc_extern Tryz.func257 (by kernel_rfl) (by kernel_rfl) (by kernel_rfl) (e:=add64Entry) (by kernel_rfl),run_add64 x y c (by omega) (by omega) (by omega) (by omega)];simp only[Fl]
 congr 5<;>omega
theorem N8 (h1 s h2 g:Nat)(H:s<18446744073709551616)(G:g<18446744073709551616)(w:gM):
  mO nB 233 #[wv h1 s,wv h2 g] w fun e w'=>
   e=.returned (wv ((h1+h2+(s+g) / 18446744073709551616)%18446744073709551616) ((s+g)%18446744073709551616))/\Ro w.heap.size w w':=by
 have L:=((Bk.new (w:=w) #[.int .u64 h1,.int .u64 s] 272 rfl).alloc (.cells #[.int .u64 h2,.int .u64 g] 272)).alloc (.cells #[.int .u64 0,.int .u64 0] 272);have D:=(Bk.new (w:=w.alloc (.cells #[.int .u64 h1,.int .u64 s] 272)) #[.int .u64 h2,.int .u64 g] 272 rfl).alloc (.cells #[.int .u64 0,.int .u64 0] 272);have B:=Bk.new (w:=(w.alloc (.cells #[.int .u64 h1,.int .u64 s] 272)).alloc (.cells #[.int .u64 h2,.int .u64 g] 272)) #[.int .u64 0,.int .u64 0] 272 rfl;simp only[gM.size_alloc]at D B;have a1:∀w,(callFunc 257 #[.int .u64 s,.int .u64 g,.int .u64 0]).run nB w=.ok (.value (.tuple #[.int .u64 (((s+g)%18446744073709551616:Nat):Int),.int .u64 (((s+g) / 18446744073709551616:Nat):Int)])) w:=fun w=>Cq s g 0 (by omega) w;have Z:=fun w=>Cq h1 h2 ((s+g) / 18446744073709551616) (by omega) w;generalize (s+g) / 18446744073709551616=C at*;generalize (s+g)%18446744073709551616=I at*;generalize (h1+h2+C)%18446744073709551616=J at*;generalize (h1+h2+C) / 18446744073709551616=CC at*;obtain⟨V,U,_,_⟩:=L.two;obtain⟨T,S,_,_⟩:=D.two;obtain⟨R,O,Y,W⟩:=B.two;clear H G;go_enter Tryz.func233,Tryz.ntmps233;go_wp2_with fail;have A:=Bk.new (w:=(w.alloc (.cells #[.int .u64 h1,.int .u64 s] 272)).alloc (.cells #[.int .u64 h2,.int .u64 g] 272)) #[.int .u64 J,.int .u64 I] 272 rfl;simp only[gM.size_alloc]at A;obtain⟨s0,s1,_,_⟩:=A.two;refine gD (by simp[results,Tryz.results233,go_sem,s0,s1];try rfl) rfl ?_;exact⟨rfl,aH (aH (aH (Rn w.heap.size w) _) _) _⟩
def wL (z:Int):Nat:=(z%18446744073709551616).toNat
def wH (z:Int):Nat:=(z / 18446744073709551616%18446744073709551616).toNat
theorem Ls {a b:Int}:(wH a+wH b+(wL a+wL b) / 18446744073709551616)%18446744073709551616=wH (a+b)/\(wL a+wL b)%18446744073709551616=wL (a+b):=by
 unfold wH wL;omega
theorem JH (hm: -562949953421312<=m/\m<=562949953421312)(hn: -562949953421312<=n/\n<=562949953421312)(h1:(m*n).natAbs<=562949953421312*1000):
  wL m*wL n%18446744073709551616=wL (m*n) /\
  ((0<=m/\0<=n->wL m*wL n / 18446744073709551616=wH (m*n)) /\
   (m<0/\0<=n->(((wL m*wL n / 18446744073709551616:Nat):Int)-(wL n:Int))%18446744073709551616=wH (m*n)) /\
   (0<=m/\n<0->(((wL m*wL n / 18446744073709551616:Nat):Int)-(wL m:Int))%18446744073709551616=wH (m*n)) /\
   (m<0/\n<0->((((wL m*wL n / 18446744073709551616:Nat):Int)-(wL n:Int))%18446744073709551616-(wL m:Int))%18446744073709551616=wH (m*n))):=by
 have key:((wL m*wL n:Nat):Int)=m*n+18446744073709551616*((if m<0 then n else 0)+(if n<0 then m else 0))+(if m<0/\n<0 then 18446744073709551616*18446744073709551616 else 0):=by
  have A:(wL m:Int)=m+(if m<0 then 18446744073709551616 else 0):=by unfold wL;split<;>omega
  have s:(wL n:Int)=n+(if n<0 then 18446744073709551616 else 0):=by unfold wL;split<;>omega
  rw[Int.natCast_mul,A,s]
  by_cases c1:m<0<;>by_cases c2:n<0<;>simp only[c1,c2,if_true,if_false,and_self,and_true,and_false]<;>simp only[Int.add_mul,Int.mul_add,Int.add_zero,Int.zero_add]<;>omega
 generalize g:wL m*wL n=P at*;generalize m*n=z at*;have D:(wL m:Int)=m%18446744073709551616:=by unfold wL;omega
 have B:(wL n:Int)=n%18446744073709551616:=by unfold wL;omega
 clear g
 by_cases c1:m<0<;>by_cases c2:n<0<;>simp only[c1,c2,if_true,if_false,and_self,and_true,and_false]at key<;>unfold wL wH at*<;> refine⟨by omega,fun h=>by omega,fun h=>by omega,fun h=>by omega,fun h=>by omega⟩
theorem Mq (m n:Nat)(hm:m<18446744073709551616)(hn:n<18446744073709551616)(w:gM):
  mO nB 258 #[.int .u64 m,.int .u64 n] w fun e w'=>e=.returned (.tuple #[.int .u64 ((m*n / 18446744073709551616:Nat):Int),.int .u64 ((m*n%18446744073709551616:Nat):Int)])/\w'=w:=
 Any.bits_Mul64 mulU m n hm hn w
theorem Dx (hm: -562949953421312<=m/\m<=562949953421312)(hn: -562949953421312<=n/\n<=562949953421312)(hp:(m*n).natAbs<=562949953421312*1000)(w:gM):
  mO nB 234 #[.int .i64 m,.int .i64 n] w fun e w'=>e=.returned (wv (wH (m*n)) (wL (m*n)))/\Ro w.heap.size w w':=by
 obtain⟨R,V,T,U,S⟩:=JH hm hn hp;have cm:Fj.wrap m=(wL m:Int):=by rw[E8];unfold wL;omega
 have cn:Fj.wrap n=(wL n:Int):=by rw[E8];unfold wL;omega
 have bm:wL m<18446744073709551616:=by unfold wL;omega
 have Z:wL n<18446744073709551616:=by unfold wL;omega
 have G:=(show Hid _ from fun w=>Mq (wL m) (wL n) bm Z w);have B:Hid _:=V;have s:Hid _:=T;have A:Hid _:=U;have g:Hid _:=S;clear V T U S hm hn hp bm Z;generalize hU:wL m=W at*;generalize hV:wL n=I at*;rw[R]at G;generalize W*I / 18446744073709551616=H at*;generalize wH (m*n)=D at*;generalize wL (m*n)=LO at*;clear hU hV R;have O:=fun HH:Nat=>(Bk.new (w:=w) #[.int .u64 HH,.int .u64 LO] 272 rfl).two
 by_cases c1:m<0<;>by_cases c2:n<0
 ·obtain⟨L,Y⟩:∃L:Nat,((H:Int)-(I:Int))%18446744073709551616=(L:Int):=⟨_,(Int.toNat_of_nonneg (by omega)).symm⟩;have J:Fj.wrap ((H:Int)-(I:Int))=(L:Int):=by rw[E8];exact Y
  have i2:Fj.wrap ((L:Int)-(W:Int))=(D:Int):=by rw[E8,<-Y];exact g.out ⟨c1,c2⟩
  clear Y B s A g;obtain⟨s0,s1,_,_⟩:=O D;go_enter oU,nX;go_wp2_with fail;refine (G.out _).mono ?_;rintro e w1 ⟨rfl,rfl⟩;go_wp2_with fail;refine gD (by simp[results,nT,go_sem,s0,s1];try rfl) rfl ?_;exact⟨rfl,aH (Rn w.heap.size w) _⟩
 ·have J:Fj.wrap ((H:Int)-(I:Int))=(D:Int):=by rw[E8];exact s.out ⟨c1,by omega⟩
  clear B s A g;obtain⟨s0,s1,_,_⟩:=O D;go_enter oU,nX;go_wp2_with fail;refine (G.out _).mono ?_;rintro e w1 ⟨rfl,rfl⟩;go_wp2_with fail;refine gD (by simp[results,nT,go_sem,s0,s1];try rfl) rfl ?_;exact⟨rfl,aH (Rn w.heap.size w) _⟩
 ·have J:Fj.wrap ((H:Int)-(W:Int))=(D:Int):=by rw[E8];exact A.out ⟨by omega,c2⟩
  clear B s A g;obtain⟨s0,s1,_,_⟩:=O D;go_enter oU,nX;go_wp2_with fail;refine (G.out _).mono ?_;rintro e w1 ⟨rfl,rfl⟩;go_wp2_with fail;refine gD (by simp[results,nT,go_sem,s0,s1];try rfl) rfl ?_;exact⟨rfl,aH (Rn w.heap.size w) _⟩
 ·have J:H=D:=B.out ⟨by omega,by omega⟩;subst J;clear B s A g;obtain⟨s0,s1,_,_⟩:=O H;go_enter oU,nX;go_wp2_with fail;refine (G.out _).mono ?_;rintro e w1 ⟨rfl,rfl⟩;go_wp2_with fail;refine gD (by simp[results,nT,go_sem,s0,s1];try rfl) rfl ?_;exact⟨rfl,aH (Rn w.heap.size w) _⟩
theorem xR (hm: -1200000<=m/\m<=1200000)(hn: -1200000<=n/\n<=1200000)(w:gM):
  mO nB 234 #[.int .i64 m,.int .i64 n] w fun e w'=>e=.returned (wv (wH (m*n)) (wL (m*n)))/\Ro w.heap.size w w':=Dx ⟨by omega,by omega⟩ ⟨by omega,by omega⟩ (Nat.le_trans (by rw[Int.natAbs_mul];exact Nat.mul_le_mul (show m.natAbs<=1200000 by omega) (show n.natAbs<=1200000 by omega)) (by decide)) w
theorem J6 {z:Int}(D: -4000000000000000000<=z/\z<=4000000000000000000)(w:gM):
  mO nB 232 #[wv (wH z) (wL z)] w fun e w'=>e=.returned (.tuple #[.int .i64 z,.bool true])/\Ro w.heap.size w w':=by
 have G:fM.i64.wrap (wL z:Int)=z:=by rw[fM.wrap_i64];unfold wL;omega
 have g:(wH z:Int)=if z<0 then 18446744073709551615 else 0:=by unfold wH;split<;>omega
 have A:=Bk.new (w:=w) #[.int .u64 (wH z),.int .u64 (wL z)] 272 rfl;obtain⟨s0,s1,_,_⟩:=A.two;generalize wH z=I at*;generalize wL z=H at*
 by_cases hn:z<0
 ·rw[if_pos hn]at g;have s:z / 9223372036854775808 = -1:=by omega
  have B:Fj.wrap (-1)=18446744073709551615:=by rw[E8];omega
  go_enter qV,pU;go_wp2_with fail
  go_quiet (fail)
  go_wp2_with fail;refine gD (by simp[results,oW,go_sem];try rfl) rfl ?_;exact⟨rfl,dV (aH (Rn w.heap.size w) _) _⟩
 ·rw[if_neg hn]at g;have s:z / 9223372036854775808=0:=by omega
  go_enter qV,pU;go_wp2_with fail
  go_quiet (fail)
  go_wp2_with fail;refine gD (by simp[results,oW,go_sem];try rfl) rfl ?_;exact⟨rfl,dV (aH (Rn w.heap.size w) _) _⟩
abbrev wz (z:Int):iP:=wv (wH z) (wL z)
def iG {κ:Type}(ek:κ->iP)(ok:κ->Prop)(w:gM)(b:Nat)(M:List (κ×Int)):Prop:=
 ∃es clock,w.heap[b]?=some (.map es clock)/\tK es clock/\es.toList.map (fun x=>(x.key,x.val))=M.map (fun p=>(ek p.1,wz p.2))/\∀p∈M,ok p.1
section
variable {κ:Type}{ek:κ->iP}{ok:κ->Prop}{k e t:jB}{w:gM}{b:Nat}{M:List (κ×Int)}
theorem iG.lt (h:iG ek ok w b M):b<w.heap.size:=by
 obtain⟨A,g,s,_⟩:=h;exact gQ s
theorem iG.move (h:iG ek ok w b M)(s:w1.heap[b]?=w.heap[b]?):iG ek ok w1 b M:=by
 obtain⟨A,g,h1,r⟩:=h;exact⟨A,g,by rw[s];exact h1,r⟩
theorem iG.keep (h:iG ek ok w b M)(g:Ro w.heap.size w w1):iG ek ok w1 b M:=h.move (g.block b h.lt)
theorem iG.new (w:gM)(g:b=w.heap.size):iG ek ok (w.alloc (.map #[] 0)) b []:=by
 subst g;exact⟨#[],0,jO w _,MapKept.stamped_empty 0,by simp,by simp⟩
theorem Ab {g:Array iM}(hm:g.toList.map (fun x=>(x.key,x.val))=M.map (fun p=>(ek p.1,wz p.2))){j:Nat}{x:iM}(hx:g.toList[j]?=some x):∃p,M[j]?=some p/\x.key=ek p.1/\x.val=wz p.2:=by
 have h:=congrArg (fun l=>l[j]?) hm;simp only[AP,hx,Rg]at h;cases hp:M[j]? with
 | none=>rw[hp]at h;cases h
 | some p=>
  rw[hp]at h;simp only[Rg,Rp,Rt.injEq]at h;exact⟨p,rfl,h.1,h.2⟩
theorem BR (K:pW k ek ok){g:Array iM}(hm:g.toList.map (fun x=>(x.key,x.val))=M.map (fun p=>(ek p.1,wz p.2)))(ho:∀p∈M,ok p.1):∀x∈g.toList,∃l,keyOf nB k x.key=some l:=by
 intro x hx;obtain⟨j,s⟩:=xU.1 hx;obtain⟨p,hp,h1,_⟩:=Ab hm s;rw[h1];exact K.key _ (ho p (tN hp))
theorem BS {A:Array iM}(hm:A.toList.map (fun x=>(x.key,x.val))=M.map (fun p=>(ek p.1,wz p.2))){s:κ}(h:∀x∈A.toList,x.key≠ek s):∀r∈M,r.1≠s:=by
 intro r hr e;obtain⟨j,B⟩:=xU.1 hr;have g:=congrArg (fun l=>l[j]?) hm;simp only[AP,B,Rg]at g;cases hx:A.toList[j]? with
 | none=>rw[hx]at g;cases g
 | some x=>
  rw[hx]at g;simp only[Rg,Rp,Rt.injEq]at g;exact h x (tN hx) (by rw[g.1,e])
theorem uZ {s:Array iM}{g:Nat}(hs:tK s g)(hm:s.toList.map (fun x=>(x.key,x.val))=M.map (fun p=>(ek p.1,wz p.2))):(M.map Rq).Nodup:=by
 have h1:s.toList.map (·.key)=M.map (fun p=>ek p.1):=by
  have:=congrArg (List.map Rq) hm
  simpa[Df,Function.comp_def]using this
 have h2:=hs.2.2;rw[h1]at h2;have:(M.map fun p=>ek p.1)=(M.map Rq).map ek:=by simp[Df,Function.comp_def]
 rw[this]at h2;exact (List.pairwise_map.1 h2).imp fun h e=>h (by rw[e])
theorem iG.look [DecidableEq κ](h:iG ek ok w b M)(K:pW k ek ok)(g:nB.underlying t=some (.map k e))(G:∀w,(zeroValue e).run nB w=.ok (wz 0) w){s:κ}(A:ok s):
  (Nk t (.map (some b)) (ek s) false).run nB w=.ok (wz (aK M s)) w:=by
 obtain⟨H,D,B,hs,hm,ho⟩:=h;obtain⟨l,hl⟩:=K.key s A
 rcases K.law.find w hl H.toList (BR K hm ho) with⟨h1,h2⟩|⟨j,x,h1,h2,h3⟩
 ·rw[iS (BS hm h2)];simp[Nk,fQ g,sD B,K.law.check w _ hl,h1,G,Fl]
 ·obtain⟨p,hp,J,I⟩:=Ab hm h2;have:p.1=s:=K.inj _ _ (by rw[<- J,h3]);subst this;rw[pR (uZ hs hm) (tN hp),<-I];simp[Nk,fQ g,sD B,K.law.check w _ hl,h1,Fl]
open Go.ChangeMaps (setBlock) in
theorem iG.put [DecidableEq κ](h:iG ek ok w b M)(K:pW k ek ok)(S:nB.underlying t=some (.map k e)){s:κ}(G:ok s)(n:Int):
  ∃(R:Obj)(O:List (κ×Int)),(M1 t (.map (some b)) (ek s) (wz n)).run nB w=.ok () (setBlock w b R) /\
   iG ek ok (setBlock w b R) b O/\(∀s',aK O s'=if s=s' then n else aK M s')/\O.length<=M.length+1:=by
 obtain⟨A,g,I,hs,hm,ho⟩:=h;obtain⟨l,hl⟩:=K.key s G;have T:b<w.heap.size:=gQ I;have same:∀o,(setBlock w b o).heap[b]?=some o:=fun o=>by simp[setBlock,T]
 rcases K.law.find w hl A.toList (BR K hm ho) with⟨h1,h2⟩|⟨j,x,h1,h2,h3⟩
 ·have h0:=BS hm h2;have V:aK M s=0:=iS h0;refine⟨.map (A.push ⟨ek s,wz n,g⟩) (g+1),M++[(s,n)],?_,?_,?_,by simp⟩
  ·simp[M1,fQ S,sD I,K.law.check w false hl,h1,tJ _ I,Fl,setBlock]
  ·exact⟨_,_,same _,tM hs h2,by simp[hm],fun p hp=>by
    rcases C5.1 hp with hp|hp
    ·exact ho p hp
    ·simp at hp;subst hp;exact G⟩
  ·intro s';rw[eG]
   by_cases J:s=s'
   ·subst J;simp[V]
   ·simp[J]
 ·obtain⟨p,hp,J,Y⟩:=Ab hm h2;have:p.1=s:=K.inj _ _ (by rw[<- J,h3]);subst this;have W:A[j]?=some x:=by simpa using h2
  have U:=pR (uZ hs hm) (tN hp);have D:(A.modify j (fun B=>{ B with key:=ek p.1,val:=wz n })).toList=A.toList.set j { x with val:=wz n }:=by
   rw[Ri,Ih _ _ _ _ h2];have:({ x with key:=ek p.1,val:=wz n }:iM)={ x with val:=wz n }:=by rw[<- h3]
   rw[this]
  have H:A.modify j (fun B=>{ B with key:=ek p.1,val:=wz n })=A.modify j (fun B=>{ B with val:=wz n }):=by
   apply Rm
   rw[D,Ri,Ih _ _ _ _ h2]
  refine⟨.map (A.modify j (fun B=>{ B with key:=ek p.1,val:=wz n })) g,M.set j (p.1,n),?_,?_,?_,by simp⟩
  ·simp[M1,fQ S,sD I,K.law.check w false hl,h1,W,h3,K.law.stays w hl,tJ _ I,Fl,setBlock]
  ·rw[H];refine⟨_,_,same _,tL hs _ _ (fun _ _=>rfl) (fun _ _ _=>rfl),?_,fun q hq=>?_⟩
   ·rw[<- H,D,xV,xV,hm,h3]
   ·rcases AW hq with hq|rfl
    ·exact ho q hq
    ·exact G
  ·intro s';rw[Cb hp]
   by_cases L:p.1=s'
   ·subst L;rw[if_pos rfl,if_pos rfl,U];omega
   ·rw[if_neg L,if_neg L];omega
end
section
variable {κ:Type}{ek:κ->iP}{ok:κ->Prop}{k e t:jB}{w:gM}{b:Nat}{M:List (κ×Int)}
open Go.ChangeMaps (setBlock) in
theorem bG.put [DecidableEq κ](h:bG ek ok w b M)(K:pW k ek ok)(S:nB.underlying t=some (.map k e)){s:κ}(G:ok s)(n:Int):
  ∃(R:Obj)(O:List (κ×Int)),(M1 t (.map (some b)) (ek s) (.int .i64 n)).run nB w=.ok () (setBlock w b R) /\
   bG ek ok (setBlock w b R) b O/\(∀s',aK O s'=if s=s' then n else aK M s')/\O.length<=M.length+1:=by
 obtain⟨A,g,I,hs,hm,ho⟩:=h;obtain⟨l,hl⟩:=K.key s G;have T:b<w.heap.size:=gQ I;have same:∀o,(setBlock w b o).heap[b]?=some o:=fun o=>by simp[setBlock,T]
 rcases K.law.find w hl A.toList (wZ K hm ho) with⟨h1,h2⟩|⟨j,x,h1,h2,h3⟩
 ·have h0:=xA hm h2;have V:aK M s=0:=iS h0;refine⟨.map (A.push ⟨ek s,.int .i64 n,g⟩) (g+1),M++[(s,n)],?_,?_,?_,by simp⟩
  ·simp[M1,fQ S,sD I,K.law.check w false hl,h1,tJ _ I,Fl,setBlock]
  ·exact⟨_,_,same _,tM hs h2,by simp[hm],fun p hp=>by
    rcases C5.1 hp with hp|hp
    ·exact ho p hp
    ·simp at hp;subst hp;exact G⟩
  ·intro s';rw[eG]
   by_cases J:s=s'
   ·subst J;simp[V]
   ·simp[J]
 ·obtain⟨p,hp,J,Y⟩:=wY hm h2;have:p.1=s:=K.inj _ _ (by rw[<- J,h3]);subst this;have W:A[j]?=some x:=by simpa using h2
  have U:=pR (qS hs hm) (tN hp);have D:(A.modify j (fun B=>{ B with key:=ek p.1,val:= .int .i64 n })).toList=A.toList.set j { x with val:= .int .i64 n }:=by
   rw[Ri,Ih _ _ _ _ h2];have:({ x with key:=ek p.1,val:= .int .i64 n }:iM)={ x with val:= .int .i64 n }:=by rw[<- h3]
   rw[this]
  have H:A.modify j (fun B=>{ B with key:=ek p.1,val:= .int .i64 n })=A.modify j (fun B=>{ B with val:= .int .i64 n }):=by
   apply Rm
   rw[D,Ri,Ih _ _ _ _ h2]
  refine⟨.map (A.modify j (fun B=>{ B with key:=ek p.1,val:= .int .i64 n })) g,M.set j (p.1,n),?_,?_,?_,by simp⟩
  ·simp[M1,fQ S,sD I,K.law.check w false hl,h1,W,h3,K.law.stays w hl,tJ _ I,Fl,setBlock]
  ·rw[H];refine⟨_,_,same _,tL hs _ _ (fun _ _=>rfl) (fun _ _ _=>rfl),?_,fun q hq=>?_⟩
   ·rw[<- H,D,xV,xV,hm,h3]
   ·rcases AW hq with hq|rfl
    ·exact ho q hq
    ·exact G
  ·intro s';rw[Cb hp]
   by_cases L:p.1=s'
   ·subst L;rw[if_pos rfl,if_pos rfl,U];omega
   ·rw[if_neg L,if_neg L];omega
end
open Go.ChangeMaps (setBlock)
def dU {κ:Type}(ek:κ->iP)(ok:κ->Prop)(w:gM)(b r:Nat)(M rest:List (κ×Int)):Prop:=
 ∃es clock seen,w.heap[b]?=some (.map es clock)/\w.heap[r]?=some (.mapIter (some b) clock seen clock)/\tK es clock/\es.toList.map (fun x=>(x.key,x.val))=M.map (fun p=>(ek p.1,wz p.2)) /\
  (∀p∈M,ok p.1)/\(leftOf es seen).toList.map (fun x=>(x.key,x.val))=rest.map (fun p=>(ek p.1,wz p.2))/\b≠r
section
variable {κ:Type}{ek:κ->iP}{ok:κ->Prop}{w:gM}{b r:Nat}{M rest:List (κ×Int)}
theorem dU.move (h:dU ek ok w b r M rest)(s:w1.heap[b]?=w.heap[b]?)(hr:w1.heap[r]?=w.heap[r]?):dU ek ok w1 b r M rest:=by
 obtain⟨A,g,seen,h1,h2,h3⟩:=h;exact⟨A,g,seen,by rw[s];exact h1,by rw[hr];exact h2,h3⟩
theorem dU.lt (h:dU ek ok w b r M rest):b<w.heap.size/\r<w.heap.size:=by
 obtain⟨s,g,seen,h1,h2,_⟩:=h;exact⟨gQ h1,gQ h2⟩
theorem dU.keep (h:dU ek ok w b r M rest)(g:Ro w.heap.size w w1):dU ek ok w1 b r M rest:=h.move (g.block b h.lt.1) (g.block r h.lt.2)
theorem dU.start {t k e:jB}(h:iG ek ok w b M)(D:nB.underlying t=some (.map k e)):∃w',(Qz t (.map (some b))).run nB w=.ok (.pointer (some ⟨w.heap.size,0,none⟩)) w'/\dU ek ok w' b w.heap.size M M/\Ro w.heap.size w w'/\w'.heap.size=w.heap.size+1:=by
 have A:=h.lt;obtain⟨s,g,B,hs,hm,ho⟩:=h;refine⟨w.alloc (.mapIter (some b) g #[] g),?_,⟨s,g,#[],?_,jO w _,hs,hm,ho,?_,by omega⟩,aH (Rn _ _) _,by simp⟩
 ·simp[Qz,fQ D,sD B,Fl,newObj,Sem.run]
 ·rw[Ro.heap_alloc _ _ _ A];exact B
 ·have:(leftOf s #[]).toList=s.toList:=by unfold leftOf;simp
  rw[this];exact hm
theorem dU.next (h:dU ek ok w b r M rest)(J:jB):
  (rest=[]/\(Re (.pointer (some ⟨r,0,none⟩)) false J).run nB w=.ok (.tuple #[.bool false]) w) \/
  ∃(p:κ×Int)(s:List (κ×Int))(w':gM),rest.Perm (p::s)/\(Re (.pointer (some ⟨r,0,none⟩)) false J).run nB w=.ok (.tuple #[.bool true,ek p.1,wz p.2]) w'/\dU ek ok w' b r M s /\
   (RW (.pointer (some ⟨r,0,none⟩))).run nB w'=.ok (.tuple #[ek p.1,wz p.2]) w'/\Bx r w w'/\w'.heap.size=w.heap.size/\s.length+1=rest.length:=by
 obtain⟨B,g,seen,h1,h2,hs,hm,ho,hl,I⟩:=h
 rcases run_next_at (P:=nB) w J r b g g seen B g h2 h1 hs.1 (Nat.le_refl _) with⟨h0,A⟩|⟨x,hx,w1,R,A⟩
 ·left
  refine⟨?_,A⟩;have:(leftOf B seen).toList=[]:=List.eq_nil_of_length_eq_zero (by simpa using h0);rw[this]at hl;exact List.map_eq_nil_iff.1 hl.symm
 ·right
  obtain⟨j,V⟩:=xU.1 hx;obtain⟨p,hp,Z,Y⟩:∃p,rest[j]?=some p/\x.key=ek p.1/\x.val=wz p.2:=by
   have G:=congrArg (fun l=>l[j]?) hl;simp only[AP,V,Rg]at G;cases hp:rest[j]? with
   | none=>rw[hp]at G;cases G
   | some p=>
    rw[hp]at G;simp only[Rg,Rp,Rt.injEq]at G;exact⟨p,rfl,G.1,G.2⟩
  have O:x∈B.toList:=by
   unfold leftOf at hx;rw[Rk]at hx;exact (List.mem_filter.1 hx).1
  have U:=(List.getElem?_eq_some_iff.1 hp);obtain⟨L,_⟩:=U;have T:((leftOf B seen).toList.map (·.born)).Nodup:=by
   unfold leftOf;rw[Rk];exact hs.2.1.sublist ((List.filter_sublist (l:=B.toList)).map _)
  rw[Z,Y]at A;have D:Bx r w w1/\w1.heap=w.heap:=by
   rcases R with rfl|rfl
   ·exact⟨Bx.refl _ _,rfl⟩
   ·exact⟨(Bx.refl _ _).drew,rfl⟩
  have S:r<w1.heap.size:=by rw[D.2];exact gQ h2
  have W:Bx r w (setBlock w1 r (.mapIter (some b) g (seen.push x.born) g)):=by
   refine⟨D.1.os,D.1.tape,D.1.output,by simp[setBlock,D.2],fun k hk hne=>?_⟩;simp only[setBlock,Array.getElem?_setIfInBounds];rw[if_neg (fun e=>hne e.symm),D.2]
  have hat:(setBlock w1 r (.mapIter (some b) g (seen.push x.born) g)).heap[r]?=some (.mapIter (some b) g (seen.push x.born) g):=by simp[setBlock,S]
  have H:(setBlock w1 r (.mapIter (some b) g (seen.push x.born) g)).heap[b]?=some (.map B g):=by rw[W.block b (gQ h1) I];exact h1
  refine⟨p,rest.eraseIdx j,_,?_,A,⟨B,g,seen.push x.born,H,hat,hs,hm,ho,?_,I⟩,?_,W,by simp[setBlock,D.2],?_⟩
  ·exact Ay hp
  ·rw[A9,Bn T V,JK,JK,hl]
  ·have:=run_entry_at (P:=nB) _ r b g seen B g x hat H O hs.2.1;rw[Z,Y]at this;exact this
  ·rw[List.length_eraseIdx_of_lt L];omega
end
section
variable {κ:Type}{ek:κ->iP}{ok:κ->Prop}{w:gM}{b r:Nat}{M left:List (κ×Int)}
theorem dU.count (h:dU ek ok w b r M left):wW w b r=left.length:=by
 obtain⟨s,g,seen,h1,h2,_,_,_,hl,_⟩:=h;unfold wW;rw[h1,h2];have:=congrArg List.length hl
 simpa using this
theorem dU.nodup (h:dU ek ok w b r M left):(M.map Rq).Nodup:=by
 obtain⟨s,g,seen,_,_,hs,hm,_⟩:=h;exact uZ hs hm
variable {ops:Array Oper}{rest:List Oper}{o:Oper}{a:Act}{Q:Exit->Act->gM->Prop}
theorem Lu (w:gM)(hg:o.guard=none)(m:Operand)(t:jB)(s:o.op=Op.range t m)(k e:jB)(H:nB.underlying t=some (.map k e))(b:Nat)(M:List (κ×Int))(hm:a.eval m=.map (some b))(h:iG ek ok w b M)
  (I:∀w',dU ek ok w' b w.heap.size M M->Ro w.heap.size w w'->w'.heap.size=w.heap.size+1->wpList nB ops Q rest (a.put o.dst (.pointer (some ⟨w.heap.size,0,none⟩))) w'):wpList nB ops Q (o::rest) a w:=by
 refine nA hg fun J A=>?_;obtain⟨w',g,G,D,B⟩:=dU.start h H;unfold Oper.wp;simp[execOp,s,hm,g,Fl];exact A _ _ (I w' G D B)
theorem Nj (w:gM)(hg:o.guard=none)(it:Operand)(B:o.op=Op.next it false)(b r:Nat)(M left:List (κ×Int))(D:a.eval it=.pointer (some ⟨r,0,none⟩))(h:dU ek ok w b r M left)
  (A:left=[]->wpList nB ops Q rest (a.put o.dst (.tuple #[.bool false])) w)
  (s:∀(p:κ×Int)(left':List (κ×Int))(w':gM),left.Perm (p::left')->dU ek ok w' b r M left'->(RW (.pointer (some ⟨r,0,none⟩))).run nB w'=.ok (.tuple #[ek p.1,wz p.2]) w'->Bx r w w'->w'.heap.size=w.heap.size->left'.length+1=left.length ->
   wpList nB ops Q rest (a.put o.dst (.tuple #[.bool true,ek p.1,wz p.2])) w'):wpList nB ops Q (o::rest) a w:=by
 refine nA hg fun I G=>?_;unfold Oper.wp
 rcases h.next o.type with⟨h0,g⟩|⟨p,left',w',hp,g,hr,H,hx,hs,hl⟩
 ·simp[execOp,B,D,g,Fl];exact G _ _ (A h0)
 ·simp[execOp,B,D,g,Fl];exact G _ _ (s p left' w' hp hr H hx hs hl)
end
end Go.Proofs.YtbdpcngcbnoioaaGreatDoor
