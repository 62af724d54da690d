import Derived.Test.YtbdpcngcbnoioaaGreatDoorGl1
import Derived.BigRegionIn
import Derived.Sort.CutIn
set_option maxRecDepth 100000
set_option maxHeartbeats 16000000
namespace Go.Proofs.YtbdpcngcbnoioaaGreatDoor
open Go.RowKit Go.Shelf
open _root_.List renaming flatMap_append->fM,getElem?_append_right->fQ,getElem?_append_left->gD,getElem?_eq_getElem->gM,length_append->gQ,mem_of_getElem?->gX,map_append->iM,getElem?_eq_some_iff->iP,getElem?_eq_none->jB,take_length->jO,mem_append->mO,length_map->nA
open Go renaming Value->nB,World->nT,info_parts->nX,Oper->oU,Operand->oW,step_append_lies->pU,callsIn_wide->qV,wpList_append_lies->sD,IntKind->tJ,TypeId->tK,Exit->tL,CallsIn->tM,Builtin->tN,Fence->xU
open Go.Proofs.Tryz renaming prog->xV,underlying126->AP,underlying42->AW,underlying28->C5,underlying26->Df
open Go.RowKit renaming Below->E8
open Go.RowKit.Below renaming refl->Fj
open _root_.Array renaming getElem?_eq_some_iff->Fl
open Go.Value renaming ownBlock->Ih
open _root_.Nat renaming le_refl->JK,le_trans->M1,add_zero->Nk,mul_one->Qz
open Go.Builtin renaming append_->RW
open Go.Fence renaming wide->Re
variable {B B' q:Nat}{W w w1:nT}{l:List nB}{u v:nB}
theorem EN {s:Nat}{l:List Rw}(M:tK)(J:aC W s v l)(L:Nat)(K V A B D:Int)(T:Bk W L #[.int .i64 K,.int .i64 V,.int .i64 A,.int .i64 B,.int .i64 D] 55)(hl:l.length<=2000000)(I:s<=W.heap.size):
  ∃g H G,(RW #[28,28] M #[v,.slice (some ⟨L,0,none⟩) 1 1]).run xV W=.ok (.slice (some ⟨g,0,none⟩) (l.length+1) H) G/\aC G s (.slice (some ⟨g,0,none⟩) (l.length+1) H) (l++[(((K,V),(A,B)),D)]) /\
   W.grownBy G v.ownBlock/\(v.ownBlock=some g\/g=W.heap.size)/\g<G.heap.size:=by
 obtain⟨i0,hi,S,R,O⟩:=nX rU;obtain⟨g,H,G,h1,h2,h3,h4,h5⟩:=run_append_lies (P:=xV) (w:=W) 28 M s 55 i0 _ 5 40 C5 hi S R O rfl (by decide) v l.length (l.flatMap iE) J ⟨L,0,none⟩ 1 1 (iE (((K,V),(A,B)),D)) rfl (oJ T) (BZ _) (by omega) (by unfold maxLen;omega) (by omega) I W.heap.size rfl;refine⟨g,H,G,h1,?_,h3,h4,h5⟩
 show G.ownsRow _ _ _ _ _ _
 rw[fM];simpa using h2
theorem GJ {n:Nat}{P:Program}{o:oU}{a:Act}{D:nT}{K:Act->nT->Prop}{Q:tL->Act->nT->Prop}(s x:oW)(t:tK)(ho:o.op=.call { callee:= .builtin .append,args:=#[s,x],argTypes:=#[t,t] })
  {A:nB} (hs:a.eval s=v) (hx:a.eval x=A) (hr:(RW #[t,t] o.type #[v,A]).run P W=.ok u D) (h:K (a.put o.dst u) D):o.wpIn Re n P a W K Q:=by
 refine⟨fun f _=>trivial,?_⟩;rw[oU.semAt_eq _ _ _ (fun c e=>by rw[ho]at e;cases e)];unfold execOp;simp[ho,resolve,invoke,builtin,hs,hx,hr,Result.andThen];exact h
theorem rP {n:Nat}{P:Program}{ops:Array oU}{rest:List oU}{o:oU}{a:Act}{G:nT}{Q:tL->Act->nT->Prop}(D:o.guard=none)(s x:oW)(t:tK)(ho:o.op=.call { callee:= .builtin .append,args:=#[s,x],argTypes:=#[t,t] })
  {A:nB} (hs:a.eval s=v) (hx:a.eval x=A) (hr:(RW #[t,t] o.type #[v,A]).run P W=.ok u G) (h:wpListIn Re n P ops Q rest (a.put o.dst u) G):wpListIn Re n P ops Q (o::rest) a W:=
 wpListIn_plain D fun _ H=>GJ s x t ho hs hx hr (H _ _ h)
def iD (t:Int×Int)(m:List It):List Rw:=m.map fun r=>((r.1,t),r.2)
theorem yQ (l:List Rw)(x y:Int)(s:Int×Int):aK (dY (c9 l x y)) s =-aK (c9 l x y) s:=by
 unfold dY;exact Ca _ s
theorem Bm {m:List It}{k:Nat}{K V D:Int}{t:Int×Int}(h:m[k]?=some ((K,V),D)):iD t (m.take (k+1))=iD t (m.take k)++[(((K,V),t),D)]:=by
 unfold iD;rw[fK h,iM];rfl
theorem uM (t:Int×Int)(m:List It):(iD t m).length=m.length:=by unfold iD;rw[nA]
theorem J5 (m:List It)(r:It):dY (m++[r])=dY m++[(r.1,-r.2)]:=by unfold dY;rw[iM];rfl
theorem FI (m:List It):(dY m).length=m.length:=by unfold dY;rw[nA]
theorem IQ (m:List It):aJ (dY m)=aJ m:=by
 unfold dY
 induction m with
 | nil=>rfl
 | cons r m ih=>simp only[List.map_cons,aJ,ih];omega
open Go.ChangeMaps (setBlock)
attribute [local go_sem] oU.semAt_some
def lK (C:List Rw)(X Y:Int)(I:List It):List It:=aO bJ (I++dY (c9 C X Y))
theorem Iy (a:Option Addr)(U:Nat)(C:List Rw)(X Y:Int)(u:nB)(I:List It)(w:nT)(h:Rs w (.slice a C.length U) C)(hC:∀r∈C,dG r=true)(p3:C.length<=110000)(hI:Is w u I)(p1:I.length<=400)(a1:aJ I<=1000000)(a0:∀r∈I,jK r.1):
  tM Re 4 xV 246 #[.slice a C.length U,tv X Y,u] w fun e w'=>∃o:nB,e=.returned o/\aC w' w.heap.size o (iD (X,Y) (lK C X Y I))/\E8 w.heap.size w w':=by
 have HH:Hid (Rs w (.slice a C.length U) C):=h;have a9:Hid (aJ I<=1000000):=a1;have i8:Hid (∀r∈I,jK r.1):=a0;obtain⟨aI,cI,rfl,o7,e6,m4,x7⟩:=Is.open hI;unfold maxLen at e6;have i9:=(show Hid _ from x7);have o9:=qG C X Y;have e5:=@run_makeMap xV;clear h hI a1 a0 x7;have m0:bG gC thOk (((w.alloc (.cells #[.int .i64 X,.int .i64 Y] 32)).alloc (.map #[] 0)).alloc (.cells #[.map (some (w.heap.size+1))] 126)) (w.heap.size+1) []:=(bG.new (w.alloc _) (by simp)).keep (aH (Fj _ _) _);have a8:Bk (((w.alloc (.cells #[.int .i64 X,.int .i64 Y] 32)).alloc (.map #[] 0)).alloc (.cells #[.map (some (w.heap.size+1))] 126)) (w.heap.size+1+1) #[.map (some (w.heap.size+1))] 126:=Bk.new (w:=(w.alloc _).alloc _) _ _ (by simp);have a5:Bk (((w.alloc (.cells #[.int .i64 X,.int .i64 Y] 32)).alloc (.map #[] 0)).alloc (.cells #[.map (some (w.heap.size+1))] 126)) w.heap.size #[.int .i64 X,.int .i64 Y] 32:=((Bk.new (w:=w) _ _ rfl).alloc _).alloc _;have w7:E8 w.heap.size w (((w.alloc (.cells #[.int .i64 X,.int .i64 Y] 32)).alloc (.map #[] 0)).alloc (.cells #[.map (some (w.heap.size+1))] 126)):=aH (aH (aH (Fj _ _) _) _) _;refine callsIn_of_wp_marks Tryz.func246 rfl trivial ?_ rfl;simp only[Tryz.ntmps246,List.size_toArray,List.length_cons,List.length_nil,Nat.reduceAdd,Nat.reduceSub,Array.replicate_succ,Array.replicate_zero,List.push_toArray,List.append_toArray,List.nil_append,List.cons_append]
 gi_wp2
 clear e5
 gi_loopw [18] (fun i wr=>∃(k:Nat)(M:List It),k<=I.length/\i=.int .i64 k/\bG gC thOk wr (w.heap.size+1) M/\(∀s,aK M s=aK (I.take k) s)/\M.length<=k/\Bk wr (w.heap.size+1+1) #[.map (some (w.heap.size+1))] 126/\Bk wr w.heap.size #[.int .i64 X,.int .i64 Y] 32/\E8 w.heap.size w wr) (fun i _=>I.length-(intOf i).toNat)
 case atStart=>exact⟨0,[],by omega,rfl,m0,fun s=>rfl,by simp,a8,a5,w7⟩
 case round=>
  clear m0 a8 a5 w7;obtain⟨k,M,o0,rfl,S,z7,p0,bc,bt,L⟩:=hrel;have HT:=(show Hid (∀s,aK M s=aK (I.take k) s) from z7);clear z7
  by_cases e8:k<I.length
  ·obtain⟨g,off,K,V,D,rfl,hg,hr,c0,c1,c2⟩:=i9.out k e8;have d0:=cB L c0;have d1:=cB L c1;have d2:=cB L c2;have HR:=(show Hid (I[k]?=some ((K,V),D)) from hr);have w5:thOk (K,V):=rW (i8.out _ (gX hr));have ik:((k:Int)<(I.length:Int)):=by omega
   have bx:=Bk.new (w:=wr) #[.int .i64 K,.int .i64 V,.int .i64 D] 98 rfl;have x9:E8 wr.heap.size wr (wr.alloc (.cells #[.int .i64 K,.int .i64 V,.int .i64 D] 98)):=aH (Fj _ _) _;have x4:=S.keep x9;have v6:=bc.keep x9;have a6:=bt.keep x9;have w8:=aG L x9;have cM:=v6.cell (i:=0) (v:= .map (some (w.heap.size+1))) rfl;have n3:=S.lt;clear c0 c1 c2 hr
   gi_upto_region 5 with fail
   clear d0 d1 d2 S L x9 bc bt;generalize wr.heap.size=tb at*;generalize (wr.alloc (.cells #[.int .i64 K,.int .i64 V,.int .i64 D] 98))=wt at*;obtain⟨st,o1,J,M',e1,e2,e3,y5,x6,f1⟩:=bG.enter (x4.move (w1:=wt.drew) rfl) j6 AP iL w5 (aK M (K,V)+D)
   change (Instr.entryStore _ _ (.int .i64 (st:Int)) _).run _ _=_ at e3
   have e0:=bG.look (x4.move (w1:=wt.drew) rfl) j6 AP iL w5;obtain⟨y0,y1,y2⟩:=bx.three;have z0: -4611686018427387904<=aK M (K,V)+D/\aK M (K,V)+D<=4611686018427387904:=by
    have h1:=iT (I.take (k+1)) (K,V);rw[fK HR.out,eG,if_pos rfl,<-HT.out]at h1;have h2:=pZ I (k+1);rw[fK HR.out]at h2;have:=a9.out;omega
   have HN:Hid (∀s,aK M' s=aK (I.take (k+1)) s):=fun s=>by
    rw[x6,fK HR.out,eG]
    by_cases e:(K,V)=s
    ·rw[if_pos e,if_pos e,<-HT.out,e]
    ·rw[if_neg e,if_neg e,HT.out];omega
   clear x6;obtain⟨e4,b4⟩:=z0;generalize f7:aK M (K,V)=T at*;clear f7;have iw:tJ.i64.wrap (T+D)=T+D:=by rw[tJ.wrap_i64];omega
   have w6:E8 w.heap.size w (setBlock wt.drew (w.heap.size+1) J):=eR w8.drew (by omega);have a7:Bk (setBlock wt.drew (w.heap.size+1) J) (w.heap.size+1+1) #[.map (some (w.heap.size+1))] 126:=by unfold Bk;rw[fU (by omega)];exact v6
   have a4:Bk (setBlock wt.drew (w.heap.size+1) J) w.heap.size #[.int .i64 X,.int .i64 Y] 32:=by unfold Bk;rw[fU (by omega)];exact a6
   have h9:=(show Hid (bG gC thOk (setBlock wt.drew (w.heap.size+1) J) (w.heap.size+1) M'/\M'.length<=k+1/\Bk (setBlock wt.drew (w.heap.size+1) J) (w.heap.size+1+1) #[.map (some (w.heap.size+1))] 126/\Bk (setBlock wt.drew (w.heap.size+1) J) w.heap.size #[.int .i64 X,.int .i64 Y] 32/\E8 w.heap.size w (setBlock wt.drew (w.heap.size+1) J)) from⟨y5,by omega,a7,a4,w6⟩);clear y5 x4 f1 bx v6 a6 w8 w6 a7 a4;have b6:xV.follows .mixedOrders=true:=by kernel_rfl
   gi_region
   all_goals
    clear e0 e1 e2 e3;generalize setBlock wt.drew (w.heap.size+1) J=w2 at*
    gi_wp2
    exact⟨⟨k+1,M',by omega,by go_num,h9.out.1,HN.out,h9.out.2.1,h9.out.2.2.1,h9.out.2.2.2.1,h9.out.2.2.2.2⟩,by simp[intOf];omega⟩
  ·obtain rfl:k=I.length:=by omega
   rw[jO]at HT;obtain⟨x0,x1,_,_⟩:=bt.two;have f3:=L.size;have o6:=bc.lt;have ik:¬((I.length:Int)<(I.length:Int)):=by omega
   gi_wp2
   refine⟨trivial,?_⟩;refine tM.mono (qV.2 (Dd _ _ _ _ _ _)) ?_;rintro e R ⟨rfl,y4⟩;have y6:E8 wr.heap.size wr R:=by rw[y4];exact aH (aH (Fj _ _) _) _
   have m2:R.heap.size=wr.heap.size+1+1:=by rw[y4];simp
   have i2:Bk R wr.heap.size #[.slice a C.length U] 28:=by rw[y4];exact (Bk.new _ _ rfl).alloc _
   have i1:Bk R (wr.heap.size+1) #[.int .i64 X,.int .i64 Y] 32:=by rw[y4];exact Bk.new (w:=wr.alloc _) _ _ (by simp)
   have m1:=S.keep y6;have g8:=bc.keep y6;have g7:=bt.keep y6;have a2:=aG L y6;clear y4 x0 x1 S bc bt L y6
   gi_wp2
   refine wpIn_rangeFunc_ownH (n:=4) (w0:=R) rfl (by omega) (gf:=176) (lb:=#[.pointer (some ⟨wr.heap.size,0,none⟩),.pointer (some ⟨wr.heap.size+1,0,none⟩)]) rfl trivial (enters_of Tryz.func176 (by kernel_rfl) rfl)
    (AM wr.heap.size (wr.heap.size+1) (w.heap.size+1) a U C X Y w R (by omega) hC HH.out (fun g hg=>⟨by omega,by omega⟩) (fun k hk=>a2.block k (by omega)) i2 i1 (by omega))
    (fun h k=>h.trans k) (fun W lq o o' hN ho _ _=>Kx.put W lq o o' hN ho) (Fj _ _) (fun _=>rfl)
    (fun H W=>(∃G:List It,bG gC thOk W (w.heap.size+1) G/\(∀s,aK G s=aK I s-aK (H.map (·.1)) s)/\G.length<=I.length+H.length)/\Bk W (w.heap.size+1+1) #[.map (some (w.heap.size+1))] 126/\Bk W w.heap.size #[.int .i64 X,.int .i64 Y] 32/\E8 w.heap.size w W/\R.heap.size<=W.heap.size)
    (fun _ _ _=>False)
    (fun H A B d8 hs hg hr=>by
     obtain⟨⟨G,h1,h2,h3⟩,h4,h7,h5,h6⟩:=hs;exact⟨⟨G,h1.grown hg (fun r e=>by have:=(hr r e).1;omega),h2,h3⟩,Bk.aU h4 hg (fun r e=>by have:=(hr r e).1;omega),Bk.aU h7 hg (fun r e=>by have:=(hr r e).1;omega),Below.aU h5 hg (by have:=h4.lt;omega) (fun r e=>by have:=(hr r e).1;omega),M1 h6 hg.size⟩)
    (fun _ _ _ _ _ hs _ _=>hs)
    ⟨⟨M,m1,fun s=>by rw[HT.out];simp[aK],by simp;omega⟩,g8,g7,a2,JK _⟩
    (fun z a' W=>∃Bq,R.heap.size<=Bq/\Bk W Bq #[.int .i64 z.1.1.1,.int .i64 z.1.1.2] 131/\a'={ tmps:=#[.slice a C.length U,tv X Y,.slice aI I.length cI,undef,.pointer (some ⟨w.heap.size,0,none⟩),undef,.slice none 0 0,.pointer (some ⟨w.heap.size+1+1,0,none⟩),undef,u9,.pointer (some ⟨Bq,0,none⟩),.int .i64 z.1.2,undef,undef,undef,.map (some (w.heap.size+1)),.slice aI I.length cI,.int .i64 (I.length:Nat),.int .i64 (I.length:Nat),.bool false,u20,u21,u22,u23,u24,u25,u26,u27,u28,u29,u30,u31,u32,u33,u34,.slice a C.length U,tv X Y,.func (.func 176) #[] #[.pointer (some ⟨wr.heap.size,0,none⟩),.pointer (some ⟨wr.heap.size+1,0,none⟩)],gC z.1.1,.int .i64 z.1.2,undef,undef,undef,undef,undef,undef,undef,undef,undef,undef,undef,undef,undef,undef,undef,undef,undef,undef,undef,undef,undef,undef,undef,undef,undef,undef,undef],defers:=[] })
    (fun z a' _ A B d8 hs hg hr=>by
     obtain⟨Bq,h1,h2,h3⟩:=hs;exact⟨Bq,h1,Bk.aU h2 hg (fun r e=>by
      obtain⟨_,o,h4,h5⟩:=hr r e;rintro rfl;unfold Bk at h2;rw[h2]at h4;cases h4;cases h5),h3⟩)
    ?assign ?body ?done ?stop
   case assign=>
    rintro lq H z W K ⟨⟨G,h1,h2,h3⟩,h4,h7,h5,h6⟩ hK
    gi_wp2
    refine hK _ _ ((KeepsOthers.alloc _ _).from _) ⟨by simp,fun k hk _=>E8.heap_alloc _ _ _ (by omega)⟩ ⟨⟨G,h1.keep (aH (Fj _ _) _),h2,h3⟩,h4.alloc _,h7.alloc _,sG h5 (by omega) _,by simp;omega⟩ ⟨W.heap.size,h6,Bk.new _ _ rfl,rfl⟩
   case body=>
    rintro lq H z a' W n4-⟨⟨G,h1,h2,h3⟩,h4,h7,h5,h6⟩ ⟨Bq,p4,hq,rfl⟩ k7;obtain⟨⟨⟨K,V⟩,D⟩,x5,v3,v2⟩:=z;have H2:=(show Hid _ from h2);clear h2;obtain⟨st,o1,J,M',e1,e2,e3,y5,x6,n6⟩:=bG.enter (h1.move (w1:=W.drew) rfl) j6 AP iL x5 (aK G (K,V)-D)
    change (Instr.entryStore _ _ (.int .i64 (st:Int)) _).run _ _=_ at e3
    have e0:=bG.look (h1.move (w1:=W.drew) rfl) j6 AP iL x5;have HN:Hid (∀s,aK M' s=aK I s-aK ((H++[⟨((K,V),D),x5,v3,v2⟩]:List XI).map (·.1)) s):=fun s=>by
     rw[x6,iM]
     show _=aK I s-aK (H.map (·.1)++[((K,V),D)]) s
     rw[eG]
     by_cases e:(K,V)=s
     ·rw[if_pos e,if_pos e,e,H2.out];omega
     ·rw[if_neg e,if_neg e,H2.out];omega
    have z0: -4611686018427387904<=aK G (K,V)-D/\aK G (K,V)-D<=4611686018427387904:=by
     have h1:=iT (H.map (·.1)) (K,V);have h2:=Lv H;have h3:=iT I (K,V);have h4:=a9.out;have h5:=H2.out (K,V);omega
    clear x6;obtain⟨e4,b4⟩:=z0;generalize hT:aK G (K,V)=T at*;clear hT;have iw:tJ.i64.wrap (T-D)=T-D:=by rw[tJ.wrap_i64];omega
    have c0:=h4.cell (i:=0) (v:= .map (some (w.heap.size+1))) rfl;obtain⟨q0,q1,_,_⟩:=hq.two;dsimp only at q0 q1;have b6:xV.follows .mixedOrders=true:=by kernel_rfl
    have h9:Hid (KeepsFrom R.heap.size W (setBlock W.drew (w.heap.size+1) J)/\Kx R.heap.size (w.heap.size+1) W (setBlock W.drew (w.heap.size+1) J) /\
      ((∃G:List It,bG gC thOk (setBlock W.drew (w.heap.size+1) J) (w.heap.size+1) G/\(∀s,aK G s=aK I s-aK ((H++[⟨((K,V),D),x5,v3,v2⟩]:List XI).map (·.1)) s)/\G.length<=I.length+(H++[⟨((K,V),D),x5,v3,v2⟩]:List XI).length)/\Bk (setBlock W.drew (w.heap.size+1) J) (w.heap.size+1+1) #[.map (some (w.heap.size+1))] 126/\Bk (setBlock W.drew (w.heap.size+1) J) w.heap.size #[.int .i64 X,.int .i64 Y] 32/\E8 w.heap.size w (setBlock W.drew (w.heap.size+1) J)/\R.heap.size<=(setBlock W.drew (w.heap.size+1) J).heap.size)):=by
     have hz:(setBlock W.drew (w.heap.size+1) J).heap.size=W.heap.size:=oO W.drew (w.heap.size+1) J;refine⟨⟨by rw[hz];exact JK _,fun k o hB hk _=>?_⟩,⟨by rw[hz];exact JK _,fun k _ hm=>?_⟩,⟨M',y5,HN.out,by simp;omega⟩,?_,?_,eR h5.drew (by omega),by rw[hz];exact h6⟩
     ·rw[fU (by omega)];exact hk
     ·rw[fU hm];rfl
     ·unfold Bk;rw[fU (by omega)];exact h4
     ·unfold Bk;rw[fU (by omega)];exact h7
    clear HN y5 h1 h4 h7 hq
    gi_wp2
    gi_region_with_o (fail)
    all_goals gi_wp2
    all_goals exact h9.out
   case stop=>
    rintro D c H W _ _ h _;exact h.elim
   case done=>
    rintro D xs W hD hS ⟨⟨G,h1,h2,h3⟩,h4,h7,h5,h6⟩ hK;have c0:=h4.cell (i:=0) (v:= .map (some (w.heap.size+1))) rfl;have z8:=(Fl.1 hK).1;have l9:xs.length<=110000:=by
     have h1:=congrArg List.length hS;simp at h1;omega
    have HE:Hid (aO bJ G=lK C X Y I):=by
     show _=_
     refine lD cQ fun s=>?_;rw[h2 s,hS,eI,yQ];omega
    have n5:(lK C X Y I).length<=120000:=by
     have:=gP bJ (I++dY (c9 C X Y));unfold lK;rw[gQ,FI]at this;omega
    clear h2 hS h4
    gi_wp2
    refine⟨trivial,?_⟩;refine tM.mono (qV.2 (uY (w.heap.size+1) G W h1 (by omega))) ?_;rintro e Z ⟨o3,rfl,y8,x3⟩;rw[HE.out]at y8;have v0:Z.heap[D]?=some (.deferred (some [])):=by rw[x3.block D z8];exact hK
    have f6:E8 w.heap.size w Z:=h5.trans (x3.mono (by omega));have I3:=aQ.is y8 (by omega);obtain⟨a3,c3,rfl,o8,e7,m5,x8⟩:=Is.open I3;unfold maxLen at e7;have j1:=(show Hid _ from x8);have g6:=h7.keep x3;have m3:=x3.size;have k5:R.heap.size<=Z.heap.size:=M1 h6 x3.size;clear y8 I3 x8 h1 h7 h5 h6 x3 hK z8 c0
    gi_wp2
    gi_loopw [12,50] (fun o i wq=>∃k:Nat,k<=(lK C X Y I).length/\i=.int .i64 k/\aC wq Z.heap.size o (iD (X,Y) ((lK C X Y I).take k))/\E8 Z.heap.size Z wq) (fun _ i _=>(lK C X Y I).length-(intOf i).toNat)
    case atStart=>exact⟨0,by omega,rfl,oN _ _ _ _ _,Fj _ _⟩
    case round=>
     obtain⟨k,o4,rfl,O,L⟩:=hrel
     by_cases f0:k<(lK C X Y I).length
     ·obtain⟨g,off,K,V,D',rfl,o5,hr,d0,d1,d2⟩:=j1.out k f0;have ik:((k:Int)<((lK C X Y I).length:Int)):=by omega
      have g0:=cB L d0;have g1:=cB L d1;have g2:=cB L d2;have bI:=Bk.new (w:=wr) #[.int .i64 K,.int .i64 V,.int .i64 D'] 98 rfl;have z9:E8 wr.heap.size wr (wr.alloc (.cells #[.int .i64 K,.int .i64 V,.int .i64 D'] 98)):=aH (Fj _ _) _;have y3:E8 wr.heap.size wr ((wr.alloc (.cells #[.int .i64 K,.int .i64 V,.int .i64 D'] 98)).alloc (.cells #[.int .i64 K,.int .i64 V,.int .i64 X,.int .i64 Y,.int .i64 D'] 55)):=aH z9 _;have bR:Bk ((wr.alloc (.cells #[.int .i64 K,.int .i64 V,.int .i64 D'] 98)).alloc (.cells #[.int .i64 K,.int .i64 V,.int .i64 X,.int .i64 Y,.int .i64 D'] 55)) (wr.heap.size+1) #[.int .i64 K,.int .i64 V,.int .i64 X,.int .i64 Y,.int .i64 D'] 55:=Bk.new _ _ (by simp);obtain⟨y0,y1,y2⟩:=bI.three;obtain⟨x0,x1,_,_⟩:=((g6.keep L).keep z9).two;have f3:=L.size;have z5:=cC O y3;have e9:(iD (X,Y) ((lK C X Y I).take k)).length<=2000000:=by rw[uM,List.length_take];omega
      obtain⟨gq,l4,W9,b5,z4,f2,-,-⟩:=EN 28 z5 (wr.heap.size+1) K V X Y D' bR e9 (by have:=y3.size;omega);have i5:=(show Hid _ from z4);have HZ:=(show Hid _ from Bm (t:=(X,Y)) hr);have f4:E8 Z.heap.size Z W9:=Below.aU (aG L y3) f2 (by have:=y3.size;omega) (fun q e=>by have:=bU O q e;omega);clear d0 d1 d2 hr bI z9 y3 bR O z5 z4
      gi_wp2_with (gi_at_builtin;refine rP rfl _ _ _ rfl rfl rfl b5 ?_)
      exact⟨⟨k+1,by omega,by go_num,by rw[HZ.out];exact i5.out,f4⟩,by simp[intOf];omega⟩
     ·obtain rfl:k=(lK C X Y I).length:=by omega
      rw[jO]at O;have O3:Hid (aC wr Z.heap.size u12 (iD (X,Y) (lK C X Y I))):=O;have ik:¬(((lK C X Y I).length:Int)<((lK C X Y I).length:Int)):=by omega
      have w9:wr.heap[D]?=some (.deferred (some [])):=by rw[L.block D (Fl.1 v0).1];exact v0
      have p2:D<Z.heap.size:=(Fl.1 v0).1;have f5:E8 w.heap.size w wr:=f6.trans (L.mono (by omega));clear O
      gi_wp2
      refine⟨by simp,.inl ⟨_,_,rfl,run_takeDeferred w9,?_⟩⟩;refine⟨_,results_tmp rfl _ _ _,u12,rfl,?_,?_⟩
      ·refine cW (B:=Z.heap.size) ?_ (by omega);refine fB O3.out fun q e=>?_;have:=bU O3.out q e;exact (grownBy_putObj' wr D (.deferred none)).block q (oT O3.out q e) (fun e=>by cases e;omega)
      ·exact f5.trans (belowK_b (w:=R) (by omega) wr D _ _ hD w9 rfl rfl)
theorem Ge (v:nB)(C:List Rw)(X Y:Int)(u:nB)(I:List It)(w:nT)(h:Rs w v C)(M:∀r∈C,dG r=true)(H:C.length<=110000)(L:Is w u I)(A:I.length<=400)(G:aJ I<=1000000)(D:∀r∈I,jK r.1):
  Calls xV 246 #[v,tv X Y,u] w fun e s=>∃o:nB,e=.returned o/\aC s w.heap.size o (iD (X,Y) (lK C X Y I))/\E8 w.heap.size w s:=by
 obtain⟨a,J,rfl,-,-,-,-⟩:=Rs.open h;exact qV.1 (Iy a J C X Y u I w h M H L A G D)
section
variable {ops:Array oU}{o:oU}{a:Act}{Kk:Act->nT->Prop}{Q:tL->Act->nT->Prop}{E:Prop}
theorem QK (w:nT)(T:o.guard=none)(s x:oW)(ho:o.op=.call { callee:= .builtin .append,args:=#[s,x],argTypes:=#[28,28] })
  (G:Nat) (v:nB) (l:List Rw) (hs:a.eval s=v) (L:aC w G v l) (M:Nat) (K V A B D:Int) (hx:a.eval x=.slice (some ⟨M,0,none⟩) 1 1)
  (U:Bk w M #[.int .i64 K,.int .i64 V,.int .i64 A,.int .i64 B,.int .i64 D] 55) (hl:l.length<=2000000) (J:G<=w.heap.size)
  (h:∀g I H,aC H G (.slice (some ⟨g,0,none⟩) (l.length+1) I) (l++[(((K,V),(A,B)),D)])->w.grownBy H v.ownBlock->(v.ownBlock=some g\/g=w.heap.size)->g<H.heap.size->Kk (a.put o.dst (.slice (some ⟨g,0,none⟩) (l.length+1) I)) H):
  if Region.wanted o (yielded ops a.tmps)=true then oU.wp xV o a w Kk Q else E:=by
 obtain⟨i0,hi,S,R,O⟩:=nX rU;refine pU w T s x 28 ho G 55 i0 _ 5 40 C5 hi S R O rfl (by decide) v l.length (l.flatMap iE) hs L ⟨M,0,none⟩ 1 1 (iE (((K,V),(A,B)),D)) hx rfl (oJ U) (BZ _) (by omega) (by unfold maxLen;omega) (by omega) J w.heap.size rfl ?_;intro g I H h1 h2 h3 h4;refine h g I H ?_ h2 h3 h4
 show H.ownsRow _ _ _ _ _ _
 rw[fM];simpa using h1
end
theorem wK {A B:nT}(h:E8 A.heap.size A B)(r:Option Nat):A.grownBy B r:=⟨h.os,h.tape,h.output,h.size,fun k s _=>h.block k s⟩
theorem iQ {l:List Rw}(h:aC w B v l)(e:v.ownBlock=some q):∃c:Array nB,Bk w q c 55:=by
 rcases fX h jP with⟨rfl,_⟩|⟨g,A,c,rfl,_,s,_⟩
 ·cases e
 ·have:g=q:=by simpa[Ih]using e
  subst this;exact⟨c,s⟩
theorem J9 {l:List It}(h:aQ w B v l)(e:v.ownBlock=some q):∃c:Array nB,Bk w q c 98:=by
 rcases fX h nI with⟨rfl,_⟩|⟨g,A,c,rfl,_,s,_⟩
 ·cases e
 ·have:g=q:=by simpa[Ih]using e
  subst this;exact⟨c,s⟩
theorem bK {g:Nat}{c d:Array nB}{t A:tK}(h:Bk W g c t)(s:Bk W q d A)(D:t≠A):g≠q:=fun e=>by
 subst e;unfold Bk at h s;rw[h]at s;cases s;exact D rfl
abbrev yR (v:nB):List nB:=[v]
theorem xG (v:nB):(yR v).length=1:=rfl
abbrev RO (w:nT)(v:nB)(vs:List nB):Prop:=pD yR 1 w v vs
abbrev i7 (w:nT)(B:Nat)(v:nB)(vs:List nB):Prop:=pY yR 1 28 w B v vs
theorem KT:(xV.info? 28).map (fun i=>(i.zero,i.size,i.bytes))=some (some (.slice none 0 0),1,24):=by kernel_rfl
theorem i7.vs (h:i7 w B v l)(hl:l.length<=2097152):RO w v l:=vR h xG hl
def eS (w:nT)(v:nB)(K:List (List Rw)):Prop:=∃vs:List nB,RO w v vs/\vs.length=K.length/\∀(i:Nat)(u:nB)(l:List Rw),vs[i]?=some u->K[i]?=some l->Rs w u l
theorem eS.keep {K:List (List Rw)}(h:eS w v K)(s:E8 w.heap.size w w1):eS w1 v K:=by
 obtain⟨vs,h1,h2,h3⟩:=h;exact⟨vs,h1.keep s,h2,fun i u l D A=>(h3 i u l D A).keep s⟩
theorem eS.open {K:List (List Rw)}(h:eS w v K):∃a s,v=.slice a K.length s/\K.length<=s/\s<=maxLen/\K.length<=2097152 /\
  ∀(i:Nat)(l:List Rw),K[i]?=some l->∃g off ad A,a=some ⟨g,off,none⟩/\g<w.heap.size/\w.cell? ⟨g,off+i,none⟩=some (.slice ad l.length A)/\Rs w (.slice ad l.length A) l:=by
 obtain⟨vs,⟨a,s,h0,h1,h2,h3,h4⟩,hl,H⟩:=h;rw[hl]at h0 h1 h3;refine⟨a,s,h0,h1,h2,h3,fun i l hi=>?_⟩;have D:i<vs.length:=by rw[hl];exact (iP.1 hi).1
 obtain⟨g,off,ha,hg,c⟩:=h4 i vs[i] (gM D);have hr:=H i _ l (gM D) hi;obtain⟨ad,A,e,-⟩:=Rs.open hr;have G:=c 0 (by omega);rw[Qz,Nk]at G;exact⟨g,off,ad,A,ha,hg,by rw[<- e];exact G,by rw[<- e];exact hr⟩
theorem eS.sl {K:List (List Rw)}(h:eS w v K):∃a s,v=.slice a K.length s:=by
 obtain⟨a,s,e,-⟩:=h.open;exact⟨a,s,e⟩
theorem eS.one {x:List Rw}(h:eS w v [x]):∃g off s ad A,v=.slice (some ⟨g,off,none⟩) 1 s/\g<w.heap.size/\w.cell? ⟨g,off,none⟩=some (.slice ad x.length A)/\Rs w (.slice ad x.length A) x/\1<=s/\s<=maxLen:=by
 obtain⟨a,s,rfl,h1,h2,h3,D⟩:=h.open;obtain⟨g,off,ad,A,rfl,hg,G,H⟩:=D 0 x rfl;exact⟨g,off,s,ad,A,rfl,hg,by simpa using G,H,h1,h2⟩
theorem eS.two {x y:List Rw}(h:eS w v [x,y]):∃g off s ad G D A,v=.slice (some ⟨g,off,none⟩) 2 s/\g<w.heap.size/\w.cell? ⟨g,off,none⟩=some (.slice ad x.length G)/\w.cell? ⟨g,off+1,none⟩=some (.slice D y.length A)/\Rs w (.slice ad x.length G) x/\Rs w (.slice D y.length A) y/\2<=s/\s<=maxLen:=by
 obtain⟨a,s,rfl,h1,h2,h3,H⟩:=h.open;obtain⟨g,off,ad,G,rfl,hg,J,M⟩:=H 0 x rfl;obtain⟨R,I,D,A,e,O,c1,L⟩:=H 1 y rfl;cases e;exact⟨g,off,s,ad,G,D,A,rfl,hg,by simpa using J,c1,M,L,h1,h2⟩
def j7 (w:nT)(B:Nat)(vs:List nB)(K:List (List Rw)):Prop:=vs.length=K.length/\(∀(i:Nat)(u:nB)(l:List Rw),vs[i]?=some u->K[i]?=some l->aC w B u l)/\∀l∈K,l.length<=1000000
theorem j7.nil (w:nT)(B:Nat):j7 w B [] []:=⟨rfl,fun i u l h=>by simp at h,fun l h=>by simp at h⟩
theorem j7.keep {vs:List nB}{K:List (List Rw)}(h:j7 w B vs K)(s:E8 w.heap.size w w1):j7 w1 B vs K:=⟨h.1,fun i u l h1 h2=>cC (h.2.1 i u l h1 h2) s,h.2.2⟩
theorem j7.less {vs:List nB}{K:List (List Rw)}(h:j7 w B vs K)(s:B'<=B):j7 w B' vs K:=⟨h.1,fun i u l h1 h2=>cW (h.2.1 i u l h1 h2) s,h.2.2⟩
theorem nY (h:i7 w B v l)(e:v.ownBlock=some q):∃c:Array nB,Bk w q c 28:=by
 rcases fX h xG with⟨rfl,_⟩|⟨g,A,c,rfl,_,s,_⟩
 ·cases e
 ·have:g=q:=by simpa[Ih]using e
  subst this;exact⟨c,s⟩
theorem j7.aU {vs s:List nB}{K:List (List Rw)}(h:j7 w B vs K)(A:i7 w B' v s)(hg:w.grownBy w1 v.ownBlock):j7 w1 B vs K:=
 ⟨h.1,fun i u l h1 h2=>by
  have ho:=h.2.1 i u l h1 h2;refine fB ho fun q e=>hg.block q (oT ho q e) fun G=>?_;obtain⟨c,D⟩:=iQ ho e;obtain⟨d,hd⟩:=nY A G.symm;exact bK D hd (by decide) rfl,h.2.2⟩
theorem j7.snoc {vs:List nB}{K:List (List Rw)}{l:List Rw}(h:j7 w B vs K)(D:aC w B u l)(hl:l.length<=1000000):j7 w B (vs++[u]) (K++[l]):=by
 refine⟨by rw[gQ,gQ,h.1];rfl,fun i A l' h1 h2=>?_,fun l' s=>?_⟩
 ·by_cases hi:i<vs.length
  ·rw[gD hi]at h1;rw[gD (by rw[<- h.1];exact hi)]at h2;exact h.2.1 i A l' h1 h2
  ·rw[fQ (by omega)]at h1;rw[fQ (by rw[<- h.1];omega)]at h2
   by_cases h0:i-vs.length=0
   ·rw[h0]at h1;rw[<- h.1,h0]at h2;cases h1;cases h2;exact D
   ·rw[jB (by simp;omega)]at h1;cases h1
 ·rcases mO.1 s with h1|h1
  ·exact h.2.2 l' h1
  ·simp at h1;subst h1;exact hl
theorem j7.ly {vs:List nB}{K:List (List Rw)}(h:j7 w B vs K)(s:i7 w B' v vs)(hl:vs.length<=2097152):eS w v K:=
 ⟨vs,i7.vs s hl,h.1,fun i u l h1 h2=>aC.rs (h.2.1 i u l h1 h2) (by have:=h.2.2 l (gX h2);omega)⟩
section
variable {ops:Array oU}{rest:List oU}{o:oU}{a:Act}{Q:tL->Act->nT->Prop}
theorem Np (w:nT)(S:o.guard=none)(s x:oW)(ho:o.op=.call { callee:= .builtin .append,args:=#[s,x],argTypes:=#[26,26] })
  (A:Nat) (v:nB) (l:List nB) (hs:a.eval s=v) (I:i7 w A v l) (J:Nat) (ad:Option Addr) (n c:Nat) (hx:a.eval x=.slice (some ⟨J,0,none⟩) 1 1)
  (T:Bk w J #[.slice ad n c] 28) (hl:l.length<=2000000) (H:A<=w.heap.size)
  (h:∀g G D,i7 D A (.slice (some ⟨g,0,none⟩) (l.length+1) G) (l++[.slice ad n c])->w.grownBy D v.ownBlock->g<D.heap.size->wpList xV ops Q rest (a.put o.dst (.slice (some ⟨g,0,none⟩) (l.length+1) G)) D):
  wpList xV ops Q (o::rest) a w:=by
 obtain⟨i0,hi,O,M,L⟩:=nX KT;refine sD w S s x 26 ho A 28 i0 _ 1 24 Df hi O M L rfl (by decide) v l.length (l.flatMap yR) hs I ⟨J,0,none⟩ 1 1 (yR (.slice ad n c)) hx rfl (oJ T) (fun u R=>by simp at R;subst R;rfl) (by omega) (by unfold maxLen;omega) (by omega) H w.heap.size rfl ?_;intro g G D h1 h2 _ h4;refine h g G D ?_ h2 h4
 show D.ownsRow _ _ _ _ _ _
 rw[fM];simpa using h1
end
section
variable {ops:Array oU}{o:oU}{a:Act}{Kk:Act->nT->Prop}{Q:tL->Act->nT->Prop}{Ee:Prop}
theorem QN (w:nT)(S:o.guard=none)(s x:oW)(ho:o.op=.call { callee:= .builtin .append,args:=#[s,x],argTypes:=#[26,26] })
  (A:Nat) (v:nB) (l:List nB) (hs:a.eval s=v) (I:i7 w A v l) (J:Nat) (ad:Option Addr) (n c:Nat) (hx:a.eval x=.slice (some ⟨J,0,none⟩) 1 1)
  (T:Bk w J #[.slice ad n c] 28) (hl:l.length<=2000000) (H:A<=w.heap.size)
  (h:∀g G D,i7 D A (.slice (some ⟨g,0,none⟩) (l.length+1) G) (l++[.slice ad n c])->w.grownBy D v.ownBlock->g<D.heap.size->Kk (a.put o.dst (.slice (some ⟨g,0,none⟩) (l.length+1) G)) D):
  if Region.wanted o (yielded ops a.tmps)=true then oU.wp xV o a w Kk Q else Ee:=by
 obtain⟨i0,hi,O,M,L⟩:=nX KT;refine pU w S s x 26 ho A 28 i0 _ 1 24 Df hi O M L rfl (by decide) v l.length (l.flatMap yR) hs I ⟨J,0,none⟩ 1 1 (yR (.slice ad n c)) hx rfl (oJ T) (fun u R=>by simp at R;subst R;rfl) (by omega) (by unfold maxLen;omega) (by omega) H w.heap.size rfl ?_;intro g G D h1 h2 _ h4;refine h g G D ?_ h2 h4
 show D.ownsRow _ _ _ _ _ _
 rw[fM];simpa using h1
end
theorem Gp (w:nT)(s:B=w.heap.size):i7 (w.alloc (.cells #[] 28)) B (.slice (some ⟨B,0,none⟩) 0 0) []:=by
 subst s;exact kZ w _ 1
abbrev Ae (v:nB):List nB:=[v]
theorem FN (v:nB):(Ae v).length=1:=rfl
abbrev RN (w:nT)(v:nB)(vs:List nB):Prop:=pD Ae 1 w v vs
abbrev jW (w:nT)(B:Nat)(v:nB)(vs:List nB):Prop:=pY Ae 1 35 w B v vs
theorem KS:(xV.info? 35).map (fun i=>(i.zero,i.size,i.bytes))=some (some (.slice none 0 0),1,24):=by kernel_rfl
theorem jW.vs (h:jW w B v l)(hl:l.length<=2097152):RN w v l:=vR h FN hl
def kE (w:nT)(v:nB)(K:List (List It)):Prop:=∃vs:List nB,RN w v vs/\vs.length=K.length/\∀(i:Nat)(u:nB)(l:List It),vs[i]?=some u->K[i]?=some l->Is w u l
theorem kE.keep {K:List (List It)}(h:kE w v K)(s:E8 w.heap.size w w1):kE w1 v K:=by
 obtain⟨vs,h1,h2,h3⟩:=h;exact⟨vs,h1.keep s,h2,fun i u l D A=>(h3 i u l D A).keep s⟩
theorem kE.open {K:List (List It)}(h:kE w v K):∃a s,v=.slice a K.length s/\K.length<=s/\s<=maxLen/\K.length<=2097152 /\
  ∀(i:Nat)(l:List It),K[i]?=some l->∃g off ad A,a=some ⟨g,off,none⟩/\g<w.heap.size/\w.cell? ⟨g,off+i,none⟩=some (.slice ad l.length A)/\Is w (.slice ad l.length A) l:=by
 obtain⟨vs,⟨a,s,h0,h1,h2,h3,h4⟩,hl,H⟩:=h;rw[hl]at h0 h1 h3;refine⟨a,s,h0,h1,h2,h3,fun i l hi=>?_⟩;have D:i<vs.length:=by rw[hl];exact (iP.1 hi).1
 obtain⟨g,off,ha,hg,c⟩:=h4 i vs[i] (gM D);have hr:=H i _ l (gM D) hi;obtain⟨ad,A,e,-⟩:=Is.open hr;have G:=c 0 (by omega);rw[Qz,Nk]at G;exact⟨g,off,ad,A,ha,hg,by rw[<- e];exact G,by rw[<- e];exact hr⟩
theorem kE.sl {K:List (List It)}(h:kE w v K):∃a s,v=.slice a K.length s:=by
 obtain⟨a,s,e,-⟩:=h.open;exact⟨a,s,e⟩
theorem kE.one {x:List It}(h:kE w v [x]):∃g off s ad A,v=.slice (some ⟨g,off,none⟩) 1 s/\g<w.heap.size/\w.cell? ⟨g,off,none⟩=some (.slice ad x.length A)/\Is w (.slice ad x.length A) x/\1<=s/\s<=maxLen:=by
 obtain⟨a,s,rfl,h1,h2,h3,D⟩:=h.open;obtain⟨g,off,ad,A,rfl,hg,G,H⟩:=D 0 x rfl;exact⟨g,off,s,ad,A,rfl,hg,by simpa using G,H,h1,h2⟩
theorem kE.two {x y:List It}(h:kE w v [x,y]):∃g off s ad G D A,v=.slice (some ⟨g,off,none⟩) 2 s/\g<w.heap.size/\w.cell? ⟨g,off,none⟩=some (.slice ad x.length G)/\w.cell? ⟨g,off+1,none⟩=some (.slice D y.length A)/\Is w (.slice ad x.length G) x/\Is w (.slice D y.length A) y/\2<=s/\s<=maxLen:=by
 obtain⟨a,s,rfl,h1,h2,h3,H⟩:=h.open;obtain⟨g,off,ad,G,rfl,hg,J,M⟩:=H 0 x rfl;obtain⟨R,I,D,A,e,O,c1,L⟩:=H 1 y rfl;cases e;exact⟨g,off,s,ad,G,D,A,rfl,hg,by simpa using J,c1,M,L,h1,h2⟩
def nU (w:nT)(B:Nat)(vs:List nB)(K:List (List It)):Prop:=vs.length=K.length/\(∀(i:Nat)(u:nB)(l:List It),vs[i]?=some u->K[i]?=some l->aQ w B u l)/\∀l∈K,l.length<=1000000
theorem nU.nil (w:nT)(B:Nat):nU w B [] []:=⟨rfl,fun i u l h=>by simp at h,fun l h=>by simp at h⟩
theorem nU.keep {vs:List nB}{K:List (List It)}(h:nU w B vs K)(s:E8 w.heap.size w w1):nU w1 B vs K:=⟨h.1,fun i u l h1 h2=>cC (h.2.1 i u l h1 h2) s,h.2.2⟩
theorem Gm (h:jW w B v l)(e:v.ownBlock=some q):∃c:Array nB,Bk w q c 35:=by
 rcases fX h FN with⟨rfl,_⟩|⟨g,A,c,rfl,_,s,_⟩
 ·cases e
 ·have:g=q:=by simpa[Ih]using e
  subst this;exact⟨c,s⟩
theorem nU.aU {vs s:List nB}{K:List (List It)}(h:nU w B vs K)(A:jW w B' v s)(hg:w.grownBy w1 v.ownBlock):nU w1 B vs K:=
 ⟨h.1,fun i u l h1 h2=>by
  have ho:=h.2.1 i u l h1 h2;refine fB ho fun q e=>hg.block q (oT ho q e) fun G=>?_;obtain⟨c,D⟩:=J9 ho e;obtain⟨d,hd⟩:=Gm A G.symm;exact bK D hd (by decide) rfl,h.2.2⟩
theorem nU.snoc {vs:List nB}{K:List (List It)}{l:List It}(h:nU w B vs K)(D:aQ w B u l)(hl:l.length<=1000000):nU w B (vs++[u]) (K++[l]):=by
 refine⟨by rw[gQ,gQ,h.1];rfl,fun i A l' h1 h2=>?_,fun l' s=>?_⟩
 ·by_cases hi:i<vs.length
  ·rw[gD hi]at h1;rw[gD (by rw[<- h.1];exact hi)]at h2;exact h.2.1 i A l' h1 h2
  ·rw[fQ (by omega)]at h1;rw[fQ (by rw[<- h.1];omega)]at h2
   by_cases h0:i-vs.length=0
   ·rw[h0]at h1;rw[<- h.1,h0]at h2;cases h1;cases h2;exact D
   ·rw[jB (by simp;omega)]at h1;cases h1
 ·rcases mO.1 s with h1|h1
  ·exact h.2.2 l' h1
  ·simp at h1;subst h1;exact hl
theorem nU.ly {vs:List nB}{K:List (List It)}(h:nU w B vs K)(s:jW w B' v vs)(hl:vs.length<=2097152):kE w v K:=
 ⟨vs,jW.vs s hl,h.1,fun i u l h1 h2=>aQ.is (h.2.1 i u l h1 h2) (by have:=h.2.2 l (gX h2);omega)⟩
section
variable {ops:Array oU}{rest:List oU}{o:oU}{a:Act}{Q:tL->Act->nT->Prop}
theorem Qw (w:nT)(S:o.guard=none)(s x:oW)(ho:o.op=.call { callee:= .builtin .append,args:=#[s,x],argTypes:=#[42,42] })
  (A:Nat) (v:nB) (l:List nB) (hs:a.eval s=v) (I:jW w A v l) (J:Nat) (ad:Option Addr) (n c:Nat) (hx:a.eval x=.slice (some ⟨J,0,none⟩) 1 1)
  (T:Bk w J #[.slice ad n c] 35) (hl:l.length<=2000000) (H:A<=w.heap.size)
  (h:∀g G D,jW D A (.slice (some ⟨g,0,none⟩) (l.length+1) G) (l++[.slice ad n c])->w.grownBy D v.ownBlock->g<D.heap.size->wpList xV ops Q rest (a.put o.dst (.slice (some ⟨g,0,none⟩) (l.length+1) G)) D):
  wpList xV ops Q (o::rest) a w:=by
 obtain⟨i0,hi,O,M,L⟩:=nX KS;refine sD w S s x 42 ho A 35 i0 _ 1 24 AW hi O M L rfl (by decide) v l.length (l.flatMap Ae) hs I ⟨J,0,none⟩ 1 1 (Ae (.slice ad n c)) hx rfl (oJ T) (fun u R=>by simp at R;subst R;rfl) (by omega) (by unfold maxLen;omega) (by omega) H w.heap.size rfl ?_;intro g G D h1 h2 _ h4;refine h g G D ?_ h2 h4
 show D.ownsRow _ _ _ _ _ _
 rw[fM];simpa using h1
end
section
variable {ops:Array oU}{o:oU}{a:Act}{Kk:Act->nT->Prop}{Q:tL->Act->nT->Prop}{Ee:Prop}
theorem QM (w:nT)(S:o.guard=none)(s x:oW)(ho:o.op=.call { callee:= .builtin .append,args:=#[s,x],argTypes:=#[42,42] })
  (A:Nat) (v:nB) (l:List nB) (hs:a.eval s=v) (I:jW w A v l) (J:Nat) (ad:Option Addr) (n c:Nat) (hx:a.eval x=.slice (some ⟨J,0,none⟩) 1 1)
  (T:Bk w J #[.slice ad n c] 35) (hl:l.length<=2000000) (H:A<=w.heap.size)
  (h:∀g G D,jW D A (.slice (some ⟨g,0,none⟩) (l.length+1) G) (l++[.slice ad n c])->w.grownBy D v.ownBlock->g<D.heap.size->Kk (a.put o.dst (.slice (some ⟨g,0,none⟩) (l.length+1) G)) D):
  if Region.wanted o (yielded ops a.tmps)=true then oU.wp xV o a w Kk Q else Ee:=by
 obtain⟨i0,hi,O,M,L⟩:=nX KS;refine pU w S s x 42 ho A 35 i0 _ 1 24 AW hi O M L rfl (by decide) v l.length (l.flatMap Ae) hs I ⟨J,0,none⟩ 1 1 (Ae (.slice ad n c)) hx rfl (oJ T) (fun u R=>by simp at R;subst R;rfl) (by omega) (by unfold maxLen;omega) (by omega) H w.heap.size rfl ?_;intro g G D h1 h2 _ h4;refine h g G D ?_ h2 h4
 show D.ownsRow _ _ _ _ _ _
 rw[fM];simpa using h1
end
theorem Gn (w:nT)(s:B=w.heap.size):jW (w.alloc (.cells #[] 35)) B (.slice (some ⟨B,0,none⟩) 0 0) []:=by
 subst s;exact kZ w _ 1
end Go.Proofs.YtbdpcngcbnoioaaGreatDoor
