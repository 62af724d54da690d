import Derived.Test.YtbdpcngcbnoioaaGreatDoorGl1
import Derived.BigRegionIn
import Derived.Sort.CutIn
set_option maxRecDepth 100000
set_option maxHeartbeats 16000000
namespace Go.Proofs.YtbdpcngcbnoioaaGreatDoor
open Go.RowKit Go.Shelf
open Go renaming Value->fD,World->fH,Oper->fV,info_parts->gY,callsIn_wide->gZ,Operand->iC,IntKind->jU,step_append_lies->kR,TypeId->kX,CallsIn->lI,Builtin->lY,Fence->mF
open _root_.List renaming flatMap_append->mJ,length_append->nU,map_append->oJ,getElem?_append_right->oO,getElem?_append_left->qA,getElem?_eq_getElem->rN,mem_of_getElem?->sE,take_length->sG,length_map->sH
open Go.Proofs.Tryz renaming prog->sI,underlying126->wH,underlying28->wR,underlying26->AT
open Go.RowKit renaming Below->B3
open Go.RowKit.Below renaming refl->BK
open _root_.Array renaming getElem?_eq_some_iff->E0
open Go.Builtin renaming append_->EJ
open Go.Fence renaming wide->Ga
open _root_.Nat renaming le_refl->Lx,le_trans->Md
variable {B B' q:Nat}{W w w1:fH}{u v:fD}
theorem Do {s:Nat}{l:List Rw}(L:kX)(I:aD W s v l)(J:Nat)(K V A B D:Int)(R:Bk W J #[.int .i64 K,.int .i64 V,.int .i64 A,.int .i64 B,.int .i64 D] 55)(hl:l.length<=2000000)(H:s<=W.heap.size):
  ∃g G F,(EJ #[28,28] L #[v,.slice (some ⟨J,0,none⟩) 1 1]).run sI W=.ok (.slice (some ⟨g,0,none⟩) (l.length+1) G) F/\aD F s (.slice (some ⟨g,0,none⟩) (l.length+1) G) (l++[(((K,V),(A,B)),D)]) /\
   W.grownBy F v.ownBlock/\(v.ownBlock=some g\/g=W.heap.size)/\g<F.heap.size:=by
 obtain⟨i0,hi,O,N,M⟩:=gY qO;obtain⟨g,G,F,h1,h2,h3,h4,h5⟩:=run_append_lies (P:=sI) (w:=W) 28 L s 55 i0 _ 5 40 wR hi O N M rfl (by decide) v l.length (l.flatMap fX) I ⟨J,0,none⟩ 1 1 (fX (((K,V),(A,B)),D)) rfl (pO R) (BE _) (by omega) (by unfold maxLen;omega) (by omega) H W.heap.size rfl;refine⟨g,G,F,h1,?_,h3,h4,h5⟩
 show F.ownsRow _ _ _ _ _ _
 rw[mJ];simpa using h2
theorem Dc {n:Nat}{P:Program}{o:fV}{a:Act}{D:fH}{K:Act->fH->Prop}{Q:Exit->Act->fH->Prop}(s x:iC)(t:kX)(ho:o.op=.call { callee:= .builtin .append,args:=#[s,x],argTypes:=#[t,t] })
  {A:fD} (hs:a.eval s=v) (hx:a.eval x=A) (hr:(EJ #[t,t] o.type #[v,A]).run P W=.ok u D) (h:K (a.put o.dst u) D):o.wpIn Ga n P a W K Q:=by
 refine⟨fun f _=>trivial,?_⟩;rw[fV.semAt_eq _ _ _ (fun c e=>by rw[ho]at e;cases e)];unfold execOp;simp[ho,resolve,invoke,builtin,hs,hx,hr,Result.andThen];exact h
theorem qB {n:Nat}{P:Program}{ops:Array fV}{rest:List fV}{o:fV}{a:Act}{F:fH}{Q:Exit->Act->fH->Prop}(D:o.guard=none)(s x:iC)(t:kX)(ho:o.op=.call { callee:= .builtin .append,args:=#[s,x],argTypes:=#[t,t] })
  {A:fD} (hs:a.eval s=v) (hx:a.eval x=A) (hr:(EJ #[t,t] o.type #[v,A]).run P W=.ok u F) (h:wpListIn Ga n P ops Q rest (a.put o.dst u) F):wpListIn Ga n P ops Q (o::rest) a W:=
 wpListIn_plain D fun _ G=>Dc s x t ho hs hx hr (G _ _ h)
def gD (t:Int×Int)(m:List It):List Rw:=m.map fun r=>((r.1,t),r.2)
theorem xS (l:List Rw)(x y:Int)(s:Int×Int):aU (i8 (cX l x y)) s =-aU (cX l x y) s:=by
 unfold i8;exact Bb _ s
theorem Ay {m:List It}{k:Nat}{K V D:Int}{t:Int×Int}(h:m[k]?=some ((K,V),D)):gD t (m.take (k+1))=gD t (m.take k)++[(((K,V),t),D)]:=by
 unfold gD;rw[gL h,oJ];rfl
theorem tC (t:Int×Int)(m:List It):(gD t m).length=m.length:=by unfold gD;rw[sH]
theorem Hf (m:List It)(r:It):i8 (m++[r])=i8 m++[(r.1,-r.2)]:=by unfold i8;rw[oJ];rfl
theorem EM (m:List It):(i8 m).length=m.length:=by unfold i8;rw[sH]
theorem GW (m:List It):aM (i8 m)=aM m:=by
 unfold i8
 induction m with
 | nil=>rfl
 | cons r m ih=>simp only[List.map_cons,aM,ih];omega
open Go.ChangeMaps (setBlock)
attribute [local go_sem] fV.semAt_some
def kL (C:List Rw)(X Y:Int)(I:List It):List It:=aP cO (I++i8 (cX C X Y))
theorem Gh (a:Option Addr)(R:Nat)(C:List Rw)(X Y:Int)(u:fD)(I:List It)(w:fH)(h:Rs w (.slice a C.length R) C)(hC:∀r∈C,cU r=true)(p3:C.length<=110000)(hI:Is w u I)(p1:I.length<=400)(w3:aM I<=1000000)(v9:∀r∈I,mM r.1):
  lI Ga 4 sI 246 #[.slice a C.length R,tv X Y,u] w fun e w'=>∃o:fD,e=.returned o/\aD w' w.heap.size o (gD (X,Y) (kL C X Y I))/\B3 w.heap.size w w':=by
 have HH:Hid (Rs w (.slice a C.length R) C):=h;have a0:Hid (aM I<=1000000):=w3;have i4:Hid (∀r∈I,mM r.1):=v9;obtain⟨aI,cI,rfl,o7,d4,m5,x5⟩:=Is.open hI;unfold maxLen at d4;have i5:=(show Hid _ from x5);have o9:=pF C X Y;have d3:=@run_makeMap sI;clear h hI w3 v9 x5;have m0:d9 qI thOk (((w.alloc (.cells #[.int .i64 X,.int .i64 Y] 32)).alloc (.map #[] 0)).alloc (.cells #[.map (some (w.heap.size+1))] 126)) (w.heap.size+1) []:=(d9.new (w.alloc _) (by simp)).keep (aG (BK _ _) _);have w9:Bk (((w.alloc (.cells #[.int .i64 X,.int .i64 Y] 32)).alloc (.map #[] 0)).alloc (.cells #[.map (some (w.heap.size+1))] 126)) (w.heap.size+1+1) #[.map (some (w.heap.size+1))] 126:=Bk.new (w:=(w.alloc _).alloc _) _ _ (by simp);have w6:Bk (((w.alloc (.cells #[.int .i64 X,.int .i64 Y] 32)).alloc (.map #[] 0)).alloc (.cells #[.map (some (w.heap.size+1))] 126)) w.heap.size #[.int .i64 X,.int .i64 Y] 32:=((Bk.new (w:=w) _ _ rfl).alloc _).alloc _;have v6:B3 w.heap.size w (((w.alloc (.cells #[.int .i64 X,.int .i64 Y] 32)).alloc (.map #[] 0)).alloc (.cells #[.map (some (w.heap.size+1))] 126)):=aG (aG (aG (BK _ _) _) _) _;refine callsIn_of_wp_marks Tryz.func246 rfl trivial ?_ rfl;simp only[Tryz.ntmps246,List.size_toArray,List.length_cons,List.length_nil,Nat.reduceAdd,Nat.reduceSub,Array.replicate_succ,Array.replicate_zero,List.push_toArray,List.append_toArray,List.nil_append,List.cons_append]
 gi_wp2
 clear d3
 gi_loopw [18] (fun i wr=>∃(k:Nat)(M:List It),k<=I.length/\i=.int .i64 k/\d9 qI thOk wr (w.heap.size+1) M/\(∀s,aU M s=aU (I.take k) s)/\M.length<=k/\Bk wr (w.heap.size+1+1) #[.map (some (w.heap.size+1))] 126/\Bk wr w.heap.size #[.int .i64 X,.int .i64 Y] 32/\B3 w.heap.size w wr) (fun i _=>I.length-(intOf i).toNat)
 case atStart=>exact⟨0,[],by omega,rfl,m0,fun s=>rfl,by simp,w9,w6,v6⟩
 case round=>
  clear m0 w9 w6 v6;obtain⟨k,M,o0,rfl,O,z2,p0,bc,bt,J⟩:=hrel;have HT:=(show Hid (∀s,aU M s=aU (I.take k) s) from z2);clear z2
  by_cases e4:k<I.length
  ·obtain⟨g,off,K,V,D,rfl,hg,hr,c0,c1,c2⟩:=i5.out k e4;have d0:=cB J c0;have d1:=cB J c1;have d2:=cB J c2;have HR:=(show Hid (I[k]?=some ((K,V),D)) from hr);have v4:thOk (K,V):=OG (i4.out _ (sE hr));have ik:((k:Int)<(I.length:Int)):=by omega
   have bx:=Bk.new (w:=wr) #[.int .i64 K,.int .i64 V,.int .i64 D] 98 rfl;have x7:B3 wr.heap.size wr (wr.alloc (.cells #[.int .i64 K,.int .i64 V,.int .i64 D] 98)):=aG (BK _ _) _;have x2:=O.keep x7;have u4:=bc.keep x7;have w7:=bt.keep x7;have v7:=aH J x7;have cM:=u4.cell (i:=0) (v:= .map (some (w.heap.size+1))) rfl;have n3:=O.lt;clear c0 c1 c2 hr
   gi_upto_region 5 with fail
   clear d0 d1 d2 O J x7 bc bt;generalize wr.heap.size=tb at*;generalize (wr.alloc (.cells #[.int .i64 K,.int .i64 V,.int .i64 D] 98))=Z at*;obtain⟨st,o1,H,M',e1,e2,e3,y3,x4,e7⟩:=d9.enter (x2.move (w1:=Z.drew) rfl) BL wH sT v4 (aU M (K,V)+D)
   change (Instr.entryStore _ _ (.int .i64 (st:Int)) _).run _ _=_ at e3
   have e0:=d9.look (x2.move (w1:=Z.drew) rfl) BL wH sT v4;obtain⟨y0,y1,y2⟩:=bx.three;have y7: -4611686018427387904<=aU M (K,V)+D/\aU M (K,V)+D<=4611686018427387904:=by
    have h1:=pC (I.take (k+1)) (K,V);rw[gL HR.out,kJ,if_pos rfl,<-HT.out]at h1;have h2:=qQ I (k+1);rw[gL HR.out]at h2;have:=a0.out;omega
   have HN:Hid (∀s,aU M' s=aU (I.take (k+1)) s):=fun s=>by
    rw[x4,gL HR.out,kJ]
    by_cases e:(K,V)=s
    ·rw[if_pos e,if_pos e,<-HT.out,e]
    ·rw[if_neg e,if_neg e,HT.out];omega
   clear x4;obtain⟨c9,a6⟩:=y7;generalize f3:aU M (K,V)=T at*;clear f3;have iw:jU.i64.wrap (T+D)=T+D:=by rw[jU.wrap_i64];omega
   have v5:B3 w.heap.size w (setBlock Z.drew (w.heap.size+1) H):=mL v7.drew (by omega);have w8:Bk (setBlock Z.drew (w.heap.size+1) H) (w.heap.size+1+1) #[.map (some (w.heap.size+1))] 126:=by unfold Bk;rw[iO (by omega)];exact u4
   have w5:Bk (setBlock Z.drew (w.heap.size+1) H) w.heap.size #[.int .i64 X,.int .i64 Y] 32:=by unfold Bk;rw[iO (by omega)];exact w7
   have U:=(show Hid (d9 qI thOk (setBlock Z.drew (w.heap.size+1) H) (w.heap.size+1) M'/\M'.length<=k+1/\Bk (setBlock Z.drew (w.heap.size+1) H) (w.heap.size+1+1) #[.map (some (w.heap.size+1))] 126/\Bk (setBlock Z.drew (w.heap.size+1) H) w.heap.size #[.int .i64 X,.int .i64 Y] 32/\B3 w.heap.size w (setBlock Z.drew (w.heap.size+1) H)) from⟨y3,by omega,w8,w5,v5⟩);clear y3 x2 e7 bx u4 w7 v7 v5 w8 w5;have a8:sI.follows .mixedOrders=true:=by kernel_rfl
   gi_region
   all_goals
    clear e0 e1 e2 e3;generalize setBlock Z.drew (w.heap.size+1) H=w2 at*
    gi_wp2
    exact⟨⟨k+1,M',by omega,by go_num,U.out.1,HN.out,U.out.2.1,U.out.2.2.1,U.out.2.2.2.1,U.out.2.2.2.2⟩,by simp[intOf];omega⟩
  ·obtain rfl:k=I.length:=by omega
   rw[sG]at HT;obtain⟨x0,x1,_,_⟩:=bt.two;have e9:=J.size;have o6:=bc.lt;have ik:¬((I.length:Int)<(I.length:Int)):=by omega
   gi_wp2
   refine⟨trivial,?_⟩;refine lI.mono (gZ.2 (Cg _ _ _ _ _ _)) ?_;rintro e N ⟨rfl,x9⟩;have y4:B3 wr.heap.size wr N:=by rw[x9];exact aG (aG (BK _ _) _) _
   have m3:N.heap.size=wr.heap.size+1+1:=by rw[x9];simp
   have i0:Bk N wr.heap.size #[.slice a C.length R] 28:=by rw[x9];exact (Bk.new _ _ rfl).alloc _
   have g9:Bk N (wr.heap.size+1) #[.int .i64 X,.int .i64 Y] 32:=by rw[x9];exact Bk.new (w:=wr.alloc _) _ _ (by simp)
   have m1:=O.keep y4;have g5:=bc.keep y4;have g4:=bt.keep y4;have w4:=aH J y4;clear x9 x0 x1 O bc bt J y4
   gi_wp2
   refine wpIn_rangeFunc_ownH (n:=4) (w0:=N) rfl (by omega) (gf:=176) (lb:=#[.pointer (some ⟨wr.heap.size,0,none⟩),.pointer (some ⟨wr.heap.size+1,0,none⟩)]) rfl trivial (enters_of Tryz.func176 (by kernel_rfl) rfl)
    (zL wr.heap.size (wr.heap.size+1) (w.heap.size+1) a R C X Y w N (by omega) hC HH.out (fun g hg=>⟨by omega,by omega⟩) (fun k hk=>w4.block k (by omega)) i0 g9 (by omega))
    (fun h k=>h.trans k) (fun W lq o o' hN ho _ _=>Kx.put W lq o o' hN ho) (BK _ _) (fun _=>rfl)
    (fun G W=>(∃F:List It,d9 qI thOk W (w.heap.size+1) F/\(∀s,aU F s=aU I s-aU (G.map (·.1)) s)/\F.length<=I.length+G.length)/\Bk W (w.heap.size+1+1) #[.map (some (w.heap.size+1))] 126/\Bk W w.heap.size #[.int .i64 X,.int .i64 Y] 32/\B3 w.heap.size w W/\N.heap.size<=W.heap.size)
    (fun _ _ _=>False)
    (fun G A B b9 hs hg hr=>by
     obtain⟨⟨F,h1,h2,h3⟩,h4,h7,h5,h6⟩:=hs;exact⟨⟨F,h1.grown hg (fun r e=>by have:=(hr r e).1;omega),h2,h3⟩,Bk.aO h4 hg (fun r e=>by have:=(hr r e).1;omega),Bk.aO h7 hg (fun r e=>by have:=(hr r e).1;omega),Below.aO h5 hg (by have:=h4.lt;omega) (fun r e=>by have:=(hr r e).1;omega),Md h6 hg.size⟩)
    (fun _ _ _ _ _ hs _ _=>hs)
    ⟨⟨M,m1,fun s=>by rw[HT.out];simp[aU],by simp;omega⟩,g5,g4,w4,Lx _⟩
    (fun z a' W=>∃Bq,N.heap.size<=Bq/\Bk W Bq #[.int .i64 z.1.1.1,.int .i64 z.1.1.2] 131/\a'={ tmps:=#[.slice a C.length R,tv X Y,.slice aI I.length cI,undef,.pointer (some ⟨w.heap.size,0,none⟩),undef,.slice none 0 0,.pointer (some ⟨w.heap.size+1+1,0,none⟩),undef,u9,.pointer (some ⟨Bq,0,none⟩),.int .i64 z.1.2,undef,undef,undef,.map (some (w.heap.size+1)),.slice aI I.length cI,.int .i64 (I.length:Nat),.int .i64 (I.length:Nat),.bool false,u20,u21,u22,u23,u24,u25,u26,u27,u28,u29,u30,u31,u32,u33,u34,.slice a C.length R,tv X Y,.func (.func 176) #[] #[.pointer (some ⟨wr.heap.size,0,none⟩),.pointer (some ⟨wr.heap.size+1,0,none⟩)],qI z.1.1,.int .i64 z.1.2,undef,undef,undef,undef,undef,undef,undef,undef,undef,undef,undef,undef,undef,undef,undef,undef,undef,undef,undef,undef,undef,undef,undef,undef,undef,undef,undef],defers:=[] })
    (fun z a' _ A B b9 hs hg hr=>by
     obtain⟨Bq,h1,h2,h3⟩:=hs;exact⟨Bq,h1,Bk.aO h2 hg (fun r e=>by
      obtain⟨_,o,h4,h5⟩:=hr r e;rintro rfl;unfold Bk at h2;rw[h2]at h4;cases h4;cases h5),h3⟩)
    ?assign ?body ?done ?stop
   case assign=>
    rintro lq G z W K ⟨⟨F,h1,h2,h3⟩,h4,h7,h5,h6⟩ hK
    gi_wp2
    refine hK _ _ ((KeepsOthers.alloc _ _).from _) ⟨by simp,fun k hk _=>B3.heap_alloc _ _ _ (by omega)⟩ ⟨⟨F,h1.keep (aG (BK _ _) _),h2,h3⟩,h4.alloc _,h7.alloc _,qT h5 (by omega) _,by simp;omega⟩ ⟨W.heap.size,h6,Bk.new _ _ rfl,rfl⟩
   case body=>
    rintro lq G z a' W n4-⟨⟨F,h1,h2,h3⟩,h4,h7,h5,h6⟩ ⟨Bq,p4,hq,rfl⟩ l0;obtain⟨⟨⟨K,V⟩,D⟩,x3,z8,z7⟩:=z;have H2:=(show Hid _ from h2);clear h2;obtain⟨st,o1,H,M',e1,e2,e3,y3,x4,n6⟩:=d9.enter (h1.move (w1:=W.drew) rfl) BL wH sT x3 (aU F (K,V)-D)
    change (Instr.entryStore _ _ (.int .i64 (st:Int)) _).run _ _=_ at e3
    have e0:=d9.look (h1.move (w1:=W.drew) rfl) BL wH sT x3;have HN:Hid (∀s,aU M' s=aU I s-aU ((G++[⟨((K,V),D),x3,z8,z7⟩]:List XI).map (·.1)) s):=fun s=>by
     rw[x4,oJ]
     show _=aU I s-aU (G.map (·.1)++[((K,V),D)]) s
     rw[kJ]
     by_cases e:(K,V)=s
     ·rw[if_pos e,if_pos e,e,H2.out];omega
     ·rw[if_neg e,if_neg e,H2.out];omega
    have y7: -4611686018427387904<=aU F (K,V)-D/\aU F (K,V)-D<=4611686018427387904:=by
     have h1:=pC (G.map (·.1)) (K,V);have h2:=Iq G;have h3:=pC I (K,V);have h4:=a0.out;have h5:=H2.out (K,V);omega
    clear x4;obtain⟨c9,a6⟩:=y7;generalize hT:aU F (K,V)=T at*;clear hT;have iw:jU.i64.wrap (T-D)=T-D:=by rw[jU.wrap_i64];omega
    have c0:=h4.cell (i:=0) (v:= .map (some (w.heap.size+1))) rfl;obtain⟨q0,q1,_,_⟩:=hq.two;dsimp only at q0 q1;have a8:sI.follows .mixedOrders=true:=by kernel_rfl
    have U:Hid (KeepsFrom N.heap.size W (setBlock W.drew (w.heap.size+1) H)/\Kx N.heap.size (w.heap.size+1) W (setBlock W.drew (w.heap.size+1) H) /\
      ((∃F:List It,d9 qI thOk (setBlock W.drew (w.heap.size+1) H) (w.heap.size+1) F/\(∀s,aU F s=aU I s-aU ((G++[⟨((K,V),D),x3,z8,z7⟩]:List XI).map (·.1)) s)/\F.length<=I.length+(G++[⟨((K,V),D),x3,z8,z7⟩]:List XI).length)/\Bk (setBlock W.drew (w.heap.size+1) H) (w.heap.size+1+1) #[.map (some (w.heap.size+1))] 126/\Bk (setBlock W.drew (w.heap.size+1) H) w.heap.size #[.int .i64 X,.int .i64 Y] 32/\B3 w.heap.size w (setBlock W.drew (w.heap.size+1) H)/\N.heap.size<=(setBlock W.drew (w.heap.size+1) H).heap.size)):=by
     have hz:(setBlock W.drew (w.heap.size+1) H).heap.size=W.heap.size:=vZ W.drew (w.heap.size+1) H;refine⟨⟨by rw[hz];exact Lx _,fun k o hB hk _=>?_⟩,⟨by rw[hz];exact Lx _,fun k _ hm=>?_⟩,⟨M',y3,HN.out,by simp;omega⟩,?_,?_,mL h5.drew (by omega),by rw[hz];exact h6⟩
     ·rw[iO (by omega)];exact hk
     ·rw[iO hm];rfl
     ·unfold Bk;rw[iO (by omega)];exact h4
     ·unfold Bk;rw[iO (by omega)];exact h7
    clear HN y3 h1 h4 h7 hq
    gi_wp2
    gi_region_with_o (fail)
    all_goals gi_wp2
    all_goals exact U.out
   case stop=>
    rintro D c G W _ _ h _;exact h.elim
   case done=>
    rintro D xs W hD hS ⟨⟨F,h1,h2,h3⟩,h4,h7,h5,h6⟩ hK;have c0:=h4.cell (i:=0) (v:= .map (some (w.heap.size+1))) rfl;have z3:=(E0.1 hK).1;have m2:xs.length<=110000:=by
     have h1:=congrArg List.length hS;simp at h1;omega
    have HE:Hid (aP cO F=kL C X Y I):=by
     show _=_
     refine vJ eI fun s=>?_;rw[h2 s,hS,iQ,xS];omega
    have n5:(kL C X Y I).length<=120000:=by
     have:=i6 cO (I++i8 (cX C X Y));unfold kL;rw[nU,EM]at this;omega
    clear h2 hS h4
    gi_wp2
    refine⟨trivial,?_⟩;refine lI.mono (gZ.2 (zS (w.heap.size+1) F W h1 (by omega))) ?_;rintro e S ⟨o3,rfl,y6,h9⟩;rw[HE.out]at y6;have z5:S.heap[D]?=some (.deferred (some [])):=by rw[h9.block D z3];exact hK
    have f2:B3 w.heap.size w S:=h5.trans (h9.mono (by omega));have I3:=bZ.is y6 (by omega);obtain⟨a3,c3,rfl,o8,d5,m9,x6⟩:=Is.open I3;unfold maxLen at d5;have j1:=(show Hid _ from x6);have g3:=h7.keep h9;have m4:=h9.size;have k5:N.heap.size<=S.heap.size:=Md h6 h9.size;clear y6 I3 x6 h1 h7 h5 h6 h9 hK z3 c0
    gi_wp2
    gi_loopw [12,50] (fun o i wq=>∃k:Nat,k<=(kL C X Y I).length/\i=.int .i64 k/\aD wq S.heap.size o (gD (X,Y) ((kL C X Y I).take k))/\B3 S.heap.size S wq) (fun _ i _=>(kL C X Y I).length-(intOf i).toNat)
    case atStart=>exact⟨0,by omega,rfl,oN _ _ _ _ _,BK _ _⟩
    case round=>
     obtain⟨k,o4,rfl,L,J⟩:=hrel
     by_cases e6:k<(kL C X Y I).length
     ·obtain⟨g,off,K,V,D',rfl,o5,hr,d0,d1,d2⟩:=j1.out k e6;have ik:((k:Int)<((kL C X Y I).length:Int)):=by omega
      have g0:=cB J d0;have g1:=cB J d1;have g2:=cB J d2;have bI:=Bk.new (w:=wr) #[.int .i64 K,.int .i64 V,.int .i64 D'] 98 rfl;have z4:B3 wr.heap.size wr (wr.alloc (.cells #[.int .i64 K,.int .i64 V,.int .i64 D'] 98)):=aG (BK _ _) _;have x8:B3 wr.heap.size wr ((wr.alloc (.cells #[.int .i64 K,.int .i64 V,.int .i64 D'] 98)).alloc (.cells #[.int .i64 K,.int .i64 V,.int .i64 X,.int .i64 Y,.int .i64 D'] 55)):=aG z4 _;have bR:Bk ((wr.alloc (.cells #[.int .i64 K,.int .i64 V,.int .i64 D'] 98)).alloc (.cells #[.int .i64 K,.int .i64 V,.int .i64 X,.int .i64 Y,.int .i64 D'] 55)) (wr.heap.size+1) #[.int .i64 K,.int .i64 V,.int .i64 X,.int .i64 Y,.int .i64 D'] 55:=Bk.new _ _ (by simp);obtain⟨y0,y1,y2⟩:=bI.three;obtain⟨x0,x1,_,_⟩:=((g3.keep J).keep z4).two;have e9:=J.size;have z1:=bJ L x8;have e5:(gD (X,Y) ((kL C X Y I).take k)).length<=2000000:=by rw[tC,List.length_take];omega
      obtain⟨gq,l5,W9,a7,z0,e8,-,-⟩:=Do 28 z1 (wr.heap.size+1) K V X Y D' bR e5 (by have:=x8.size;omega);have i3:=(show Hid _ from z0);have HZ:=(show Hid _ from Ay (t:=(X,Y)) hr);have f0:B3 S.heap.size S W9:=Below.aO (aH J x8) e8 (by have:=x8.size;omega) (fun q e=>by have:=oB L q e;omega);clear d0 d1 d2 hr bI z4 x8 bR L z1 z0
      gi_wp2_with (gi_at_builtin;refine qB rfl _ _ _ rfl rfl rfl a7 ?_)
      exact⟨⟨k+1,by omega,by go_num,by rw[HZ.out];exact i3.out,f0⟩,by simp[intOf];omega⟩
     ·obtain rfl:k=(kL C X Y I).length:=by omega
      rw[sG]at L;have O3:Hid (aD wr S.heap.size u12 (gD (X,Y) (kL C X Y I))):=L;have ik:¬(((kL C X Y I).length:Int)<((kL C X Y I).length:Int)):=by omega
      have v8:wr.heap[D]?=some (.deferred (some [])):=by rw[J.block D (E0.1 z5).1];exact z5
      have p2:D<S.heap.size:=(E0.1 z5).1;have f1:B3 w.heap.size w wr:=f2.trans (J.mono (by omega));clear L
      gi_wp2
      refine⟨by simp,.inl ⟨_,_,rfl,run_takeDeferred v8,?_⟩⟩;refine⟨_,results_tmp rfl _ _ _,u12,rfl,?_,?_⟩
      ·refine bQ (B:=S.heap.size) ?_ (by omega);refine dF O3.out fun q e=>?_;have:=oB O3.out q e;exact (grownBy_putObj' wr D (.deferred none)).block q (oT O3.out q e) (fun e=>by cases e;omega)
      ·exact f1.trans (belowK_b (w:=N) (by omega) wr D _ _ hD v8 rfl rfl)
theorem F7 (v:fD)(C:List Rw)(X Y:Int)(u:fD)(I:List It)(w:fH)(h:Rs w v C)(L:∀r∈C,cU r=true)(G:C.length<=110000)(J:Is w u I)(A:I.length<=400)(F:aM I<=1000000)(D:∀r∈I,mM r.1):
  Calls sI 246 #[v,tv X Y,u] w fun e s=>∃o:fD,e=.returned o/\aD s w.heap.size o (gD (X,Y) (kL C X Y I))/\B3 w.heap.size w s:=by
 obtain⟨a,H,rfl,-,-,-,-⟩:=Rs.open h;exact gZ.1 (Gh a H C X Y u I w h L G J A F D)
section
variable {ops:Array fV}{o:fV}{a:Act}{Kk:Act->fH->Prop}{Q:Exit->Act->fH->Prop}{E:Prop}
theorem Nt (w:fH)(R:o.guard=none)(s x:iC)(ho:o.op=.call { callee:= .builtin .append,args:=#[s,x],argTypes:=#[28,28] })
  (F:Nat) (v:fD) (l:List Rw) (hs:a.eval s=v) (J:aD w F v l) (L:Nat) (K V A B D:Int) (hx:a.eval x=.slice (some ⟨L,0,none⟩) 1 1)
  (S:Bk w L #[.int .i64 K,.int .i64 V,.int .i64 A,.int .i64 B,.int .i64 D] 55) (hl:l.length<=2000000) (I:F<=w.heap.size)
  (h:∀g H G,aD G F (.slice (some ⟨g,0,none⟩) (l.length+1) H) (l++[(((K,V),(A,B)),D)])->w.grownBy G v.ownBlock->(v.ownBlock=some g\/g=w.heap.size)->g<G.heap.size->Kk (a.put o.dst (.slice (some ⟨g,0,none⟩) (l.length+1) H)) G):
  if Region.wanted o (yielded ops a.tmps)=true then fV.wp sI o a w Kk Q else E:=by
 obtain⟨i0,hi,O,N,M⟩:=gY qO;refine kR w R s x 28 ho F 55 i0 _ 5 40 wR hi O N M rfl (by decide) v l.length (l.flatMap fX) hs J ⟨L,0,none⟩ 1 1 (fX (((K,V),(A,B)),D)) hx rfl (pO S) (BE _) (by omega) (by unfold maxLen;omega) (by omega) I w.heap.size rfl ?_;intro g H G h1 h2 h3 h4;refine h g H G ?_ h2 h3 h4
 show G.ownsRow _ _ _ _ _ _
 rw[mJ];simpa using h1
end
theorem uO {A B:fH}(h:B3 A.heap.size A B)(r:Option Nat):A.grownBy B r:=⟨h.os,h.tape,h.output,h.size,fun k s _=>h.block k s⟩
theorem gP {l:List Rw}(h:aD w B v l)(e:v.ownBlock=some q):∃c:Array fD,Bk w q c 55:=by
 rcases gE h jD with⟨rfl,_⟩|⟨g,A,c,rfl,_,s,_⟩
 ·cases e
 ·have:g=q:=by simpa[fD.ownBlock]using e
  subst this;exact⟨c,s⟩
theorem bK {g:Nat}{c d:Array fD}{t A:kX}(h:Bk W g c t)(s:Bk W q d A)(D:t≠A):g≠q:=fun e=>by
 subst e;unfold Bk at h s;rw[h]at s;cases s;exact D rfl
abbrev xR (v:fD):List fD:=[v]
theorem vQ (v:fD):(xR v).length=1:=rfl
abbrev OP (w:fH)(v:fD)(vs:List fD):Prop:=tY xR 1 w v vs
abbrev dN (w:fH)(B:Nat)(v:fD)(vs:List fD):Prop:=pB xR 1 28 w B v vs
theorem J1:(sI.info? 28).map (fun i=>(i.zero,i.size,i.bytes))=some (some (.slice none 0 0),1,24):=by kernel_rfl
theorem dN.vs {l:List fD}(h:dN w B v l)(hl:l.length<=2097152):OP w v l:=yC h vQ hl
def eG (w:fH)(v:fD)(K:List (List Rw)):Prop:=∃vs:List fD,OP w v vs/\vs.length=K.length/\∀(i:Nat)(u:fD)(l:List Rw),vs[i]?=some u->K[i]?=some l->Rs w u l
theorem eG.keep {K:List (List Rw)}(h:eG w v K)(s:B3 w.heap.size w w1):eG w1 v K:=by
 obtain⟨vs,h1,h2,h3⟩:=h;exact⟨vs,h1.keep s,h2,fun i u l D A=>(h3 i u l D A).keep s⟩
theorem eG.open {K:List (List Rw)}(h:eG w v K):∃a s,v=.slice a K.length s/\K.length<=s/\s<=maxLen/\K.length<=2097152 /\
  ∀(i:Nat)(l:List Rw),K[i]?=some l->∃g off ad A,a=some ⟨g,off,none⟩/\g<w.heap.size/\w.cell? ⟨g,off+i,none⟩=some (.slice ad l.length A)/\Rs w (.slice ad l.length A) l:=by
 obtain⟨vs,⟨a,s,h0,h1,h2,h3,h4⟩,hl,G⟩:=h;rw[hl]at h0 h1 h3;refine⟨a,s,h0,h1,h2,h3,fun i l hi=>?_⟩;have D:i<vs.length:=by rw[hl];exact (List.getElem?_eq_some_iff.1 hi).1
 obtain⟨g,off,ha,hg,c⟩:=h4 i vs[i] (rN D);have hr:=G i _ l (rN D) hi;obtain⟨ad,A,e,-⟩:=Rs.open hr;have F:=c 0 (by omega);rw[Nat.mul_one,Nat.add_zero]at F;exact⟨g,off,ad,A,ha,hg,by rw[<- e];exact F,by rw[<- e];exact hr⟩
theorem eG.sl {K:List (List Rw)}(h:eG w v K):∃a s,v=.slice a K.length s:=by
 obtain⟨a,s,e,-⟩:=h.open;exact⟨a,s,e⟩
theorem eG.one {x:List Rw}(h:eG w v [x]):∃g off s ad A,v=.slice (some ⟨g,off,none⟩) 1 s/\g<w.heap.size/\w.cell? ⟨g,off,none⟩=some (.slice ad x.length A)/\Rs w (.slice ad x.length A) x/\1<=s/\s<=maxLen:=by
 obtain⟨a,s,rfl,h1,h2,h3,D⟩:=h.open;obtain⟨g,off,ad,A,rfl,hg,F,G⟩:=D 0 x rfl;exact⟨g,off,s,ad,A,rfl,hg,by simpa using F,G,h1,h2⟩
theorem eG.two {x y:List Rw}(h:eG w v [x,y]):∃g off s ad F D A,v=.slice (some ⟨g,off,none⟩) 2 s/\g<w.heap.size/\w.cell? ⟨g,off,none⟩=some (.slice ad x.length F)/\w.cell? ⟨g,off+1,none⟩=some (.slice D y.length A)/\Rs w (.slice ad x.length F) x/\Rs w (.slice D y.length A) y/\2<=s/\s<=maxLen:=by
 obtain⟨a,s,rfl,h1,h2,h3,G⟩:=h.open;obtain⟨g,off,ad,F,rfl,hg,I,L⟩:=G 0 x rfl;obtain⟨N,H,D,A,e,M,c1,J⟩:=G 1 y rfl;cases e;exact⟨g,off,s,ad,F,D,A,rfl,hg,by simpa using I,c1,L,J,h1,h2⟩
def gC (w:fH)(B:Nat)(vs:List fD)(K:List (List Rw)):Prop:=vs.length=K.length/\(∀(i:Nat)(u:fD)(l:List Rw),vs[i]?=some u->K[i]?=some l->aD w B u l)/\∀l∈K,l.length<=1000000
theorem gC.nil (w:fH)(B:Nat):gC w B [] []:=⟨rfl,fun i u l h=>by simp at h,fun l h=>by simp at h⟩
theorem gC.keep {vs:List fD}{K:List (List Rw)}(h:gC w B vs K)(s:B3 w.heap.size w w1):gC w1 B vs K:=⟨h.1,fun i u l h1 h2=>bJ (h.2.1 i u l h1 h2) s,h.2.2⟩
theorem gC.less {vs:List fD}{K:List (List Rw)}(h:gC w B vs K)(s:B'<=B):gC w B' vs K:=⟨h.1,fun i u l h1 h2=>bQ (h.2.1 i u l h1 h2) s,h.2.2⟩
theorem kF {l:List fD}(h:dN w B v l)(e:v.ownBlock=some q):∃c:Array fD,Bk w q c 28:=by
 rcases gE h vQ with⟨rfl,_⟩|⟨g,A,c,rfl,_,s,_⟩
 ·cases e
 ·have:g=q:=by simpa[fD.ownBlock]using e
  subst this;exact⟨c,s⟩
theorem gC.aO {vs s:List fD}{K:List (List Rw)}(h:gC w B vs K)(A:dN w B' v s)(hg:w.grownBy w1 v.ownBlock):gC w1 B vs K:=
 ⟨h.1,fun i u l h1 h2=>by
  have ho:=h.2.1 i u l h1 h2;refine dF ho fun q e=>hg.block q (oT ho q e) fun F=>?_;obtain⟨c,D⟩:=gP ho e;obtain⟨d,hd⟩:=kF A F.symm;exact bK D hd (by decide) rfl,h.2.2⟩
theorem gC.snoc {vs:List fD}{K:List (List Rw)}{l:List Rw}(h:gC w B vs K)(D:aD w B u l)(hl:l.length<=1000000):gC w B (vs++[u]) (K++[l]):=by
 refine⟨by rw[nU,nU,h.1];rfl,fun i A l' h1 h2=>?_,fun l' s=>?_⟩
 ·by_cases hi:i<vs.length
  ·rw[qA hi]at h1;rw[qA (by rw[<- h.1];exact hi)]at h2;exact h.2.1 i A l' h1 h2
  ·rw[oO (by omega)]at h1;rw[oO (by rw[<- h.1];omega)]at h2
   by_cases h0:i-vs.length=0
   ·rw[h0]at h1;rw[<- h.1,h0]at h2;cases h1;cases h2;exact D
   ·rw[List.getElem?_eq_none (by simp;omega)]at h1;cases h1
 ·rcases List.mem_append.1 s with h1|h1
  ·exact h.2.2 l' h1
  ·simp at h1;subst h1;exact hl
theorem gC.ly {vs:List fD}{K:List (List Rw)}(h:gC w B vs K)(s:dN w B' v vs)(hl:vs.length<=2097152):eG w v K:=
 ⟨vs,dN.vs s hl,h.1,fun i u l h1 h2=>aD.rs (h.2.1 i u l h1 h2) (by have:=h.2.2 l (sE h2);omega)⟩
section
variable {ops:Array fV}{rest:List fV}{o:fV}{a:Act}{Q:Exit->Act->fH->Prop}
theorem Lb (w:fH)(O:o.guard=none)(s x:iC)(ho:o.op=.call { callee:= .builtin .append,args:=#[s,x],argTypes:=#[26,26] })
  (A:Nat) (v:fD) (l:List fD) (hs:a.eval s=v) (H:dN w A v l) (I:Nat) (ad:Option Addr) (n c:Nat) (hx:a.eval x=.slice (some ⟨I,0,none⟩) 1 1)
  (R:Bk w I #[.slice ad n c] 28) (hl:l.length<=2000000) (G:A<=w.heap.size)
  (h:∀g F D,dN D A (.slice (some ⟨g,0,none⟩) (l.length+1) F) (l++[.slice ad n c])->w.grownBy D v.ownBlock->g<D.heap.size->wpList sI ops Q rest (a.put o.dst (.slice (some ⟨g,0,none⟩) (l.length+1) F)) D):
  wpList sI ops Q (o::rest) a w:=by
 obtain⟨i0,hi,M,L,J⟩:=gY J1;refine wpList_append_lies w O s x 26 ho A 28 i0 _ 1 24 AT hi M L J rfl (by decide) v l.length (l.flatMap xR) hs H ⟨I,0,none⟩ 1 1 (xR (.slice ad n c)) hx rfl (pO R) (fun u N=>by simp at N;subst N;rfl) (by omega) (by unfold maxLen;omega) (by omega) G w.heap.size rfl ?_;intro g F D h1 h2 _ h4;refine h g F D ?_ h2 h4
 show D.ownsRow _ _ _ _ _ _
 rw[mJ];simpa using h1
end
section
variable {ops:Array fV}{o:fV}{a:Act}{Kk:Act->fH->Prop}{Q:Exit->Act->fH->Prop}{Ee:Prop}
theorem JN (w:fH)(O:o.guard=none)(s x:iC)(ho:o.op=.call { callee:= .builtin .append,args:=#[s,x],argTypes:=#[26,26] })
  (A:Nat) (v:fD) (l:List fD) (hs:a.eval s=v) (H:dN w A v l) (I:Nat) (ad:Option Addr) (n c:Nat) (hx:a.eval x=.slice (some ⟨I,0,none⟩) 1 1)
  (R:Bk w I #[.slice ad n c] 28) (hl:l.length<=2000000) (G:A<=w.heap.size)
  (h:∀g F D,dN D A (.slice (some ⟨g,0,none⟩) (l.length+1) F) (l++[.slice ad n c])->w.grownBy D v.ownBlock->g<D.heap.size->Kk (a.put o.dst (.slice (some ⟨g,0,none⟩) (l.length+1) F)) D):
  if Region.wanted o (yielded ops a.tmps)=true then fV.wp sI o a w Kk Q else Ee:=by
 obtain⟨i0,hi,M,L,J⟩:=gY J1;refine kR w O s x 26 ho A 28 i0 _ 1 24 AT hi M L J rfl (by decide) v l.length (l.flatMap xR) hs H ⟨I,0,none⟩ 1 1 (xR (.slice ad n c)) hx rfl (pO R) (fun u N=>by simp at N;subst N;rfl) (by omega) (by unfold maxLen;omega) (by omega) G w.heap.size rfl ?_;intro g F D h1 h2 _ h4;refine h g F D ?_ h2 h4
 show D.ownsRow _ _ _ _ _ _
 rw[mJ];simpa using h1
end
theorem FJ (w:fH)(s:B=w.heap.size):dN (w.alloc (.cells #[] 28)) B (.slice (some ⟨B,0,none⟩) 0 0) []:=by
 subst s;exact lZ w _ 1
end Go.Proofs.YtbdpcngcbnoioaaGreatDoor
