import Derived.Test.YtbdpcngcbnoioaaGreatDoorGm1
import Derived.Test.YtbdpcngcbnoioaaGreatDoorGrw
import Derived.Deep.AppendSrc
import Derived.Test.YtbdpcngcbnoioaaGreatDoorGa8
set_option maxRecDepth 100000
set_option maxHeartbeats 8000000
namespace Go.Proofs.YtbdpcngcbnoioaaGreatDoor
open Go.RowKit
open Go.ChangeMaps (setBlock)
open Go.Proofs.Tryz renaming prog->fM,underlying28->fQ,underlying231->gD,ntmps78->gM,func78->gQ,ntmps153->gX,ntmps84->iM,func153->iP,func84->jB
open _root_.List renaming getElem?_eq_some_iff->jO,getElem?_eq_getElem->mO,mem_of_getElem?->nA,length_pos_iff->nB,take_length->nT,map_append->nX
open Go renaming Value->oU,World->oW,Calls->pU,wp_loop_rounds->qV,rounds_succ->sD,info_parts->tJ,Builtin->tK,Addr->tL
open Go.RowKit renaming Below->tM
open Go.RowKit.Below renaming refl->tN
open _root_.Array renaming getElem?_setIfInBounds->xU
variable {k:Nat}{w:oW}
theorem iL:∀w:oW,(zeroValue 3).run fM w=.ok (.int .i64 0) w:=Tryz.zeroValue3
theorem JS (K V A B D:Int)(w:oW):
  pU fM 202 #[rv K V A B D] w fun e g=>e=.returned (xS ((K,V),(A,B)))/\tM w.heap.size w g:=by
 obtain⟨J,I,H,G,s⟩:=(Bk.new (w:=w) #[.int .i64 K,.int .i64 V,.int .i64 A,.int .i64 B,.int .i64 D] 55 rfl).ag;go_enter Tryz.func202,Tryz.ntmps202;go_wp2_with fail;refine bodyPost_ret (by simp[results,Tryz.results202,go_sem];try rfl) rfl ?_;exact⟨rfl,aH (aH (tN w.heap.size w) _) _⟩
theorem JI (mb:Nat)(M l:List (Sp×Int))(W:oW)(R:bG xS spOk W mb M)(hT:∀s,aK M s=aK l s)(v8:M.length<=1000000):
  pU fM 203 #[.map (some mb)] W fun e w'=>∃o:oU,e=.returned o/\aC w' W.heap.size o (aO aW l)/\tM W.heap.size W w':=by
 have v0:Hid (∀s,aK M s=aK l s):=hT;have v7:=R.lt;clear hT;go_enter Tryz.func203,Tryz.ntmps203
 go_wp2_with (at_range;refine GK _ rfl _ _ rfl _ _ gD _ M rfl R ?_;intro w0 g x9 z3)
 go_frame
 have x3:=x9;clear R x9
 go_loopw [3] (fun o wr=>∃(done left L:List (Sp×Int)),eL xS spOk wr mb W.heap.size M left/\M.Perm (done++left)/\L.Perm (done.filter fun r=>decide (r.2≠0))/\aC wr (W.heap.size+1) o L/\W.heap.size+1<=wr.heap.size/\tM W.heap.size W wr) (fun _ wr=>wW wr mb W.heap.size)
 case atStart=>exact⟨[],M,[],g,by simp,by simp,oN _ _ _ _ _,by omega,x3⟩
 case round=>
  clear g x3 z3;obtain⟨done,left,L,g,x0,x1,x2,y8,hb⟩:=hrel;have G:=(show Hid _ from x0);have H:=(show Hid _ from x1);have HO:Hid (aC wr (W.heap.size+1) u3 L):=x2;have y2:=g.count;have w6:L.length<=M.length:=by
   have h1:=x1.length_eq;have h2:=List.length_filter_le (fun r:Sp×Int=>decide (r.2≠0)) done;have h3:=x0.length_eq;simp at h3;omega
  have hM:=(show Hid _ from g.nodup);clear x0 x1 x2
  go_wp2_with (at_next;refine IK _ rfl _ rfl _ _ M left rfl g ?_ ?_)
  ·intro hz;subst hz;have J:aC wr (W.heap.size+1) u3 L:=HO.out;have T:L.Perm (M.filter fun r=>decide (r.2≠0)):=by
    have h1:=G.out;rw[List.append_nil]at h1;exact H.out.trans (h1.filter _).symm
   have HD:=(show Hid _ from T);clear T HO G H y2;have z4:L.length<=2097152:=by omega
   go_wp2_with fail;refine (LR J z4 y8).mono ?_;rintro e w2 ⟨rfl,l',hp,Y,U,z8⟩;have y1:l'=aO aW l:=collected fG hM.out v0.out HD.out hp Y;have z5:tM W.heap.size W w2:=hb.trans (z8.mono (by omega));have O2:Hid (aC w2 (W.heap.size+1) u3 l'):=U;clear U hp Y J;go_wp2_with fail;go_ret;refine⟨_,rfl,?_,z5⟩;rw[<- y1];exact cW O2.out (by omega)
  ·intro K V A B D S w1 hp O w5 hx z1 w4;have J:aC w1 (W.heap.size+1) u3 L:=AD HO.out hx (fun q e=>by have:=bU HO.out q e;omega);have x8:tM W.heap.size W w1:=hx.below hb hb.size (by omega);have v3:W.heap.size+1<=w1.heap.size:=by omega
   have v1:=O.count;clear hx g hb HO z1
   by_cases hD:D=0
   ·subst hD;have HZ:=(show Hid _ from Au G.out hp H.out rfl);have h9:=O.keep (aH (tN _ w1) (.cells #[.int .i64 K,.int .i64 V,.int .i64 A,.int .i64 B] 233));have O2:Hid (aC (w1.alloc (.cells #[.int .i64 K,.int .i64 V,.int .i64 A,.int .i64 B] 233)) (W.heap.size+1) u3 L):=J.alloc _;clear J G H hp;go_wp2_with fail;go_roundw
    case rel=>exact⟨_,S,L,h9,HZ.out.1,HZ.out.2,O2.out,by simp;omega,aH x8 _⟩
    case measure=>rw[h9.count];omega
   ·have nD:(D==0)=false:=by simpa using hD
    have HZ:=(show Hid _ from zZ G.out hp H.out hD);clear G H hp
    go_wp2_with (at_builtin;refine kR _ rfl _ _ rfl (W.heap.size+1) _ _ rfl ((J.alloc _).alloc _) _ _ _ _ _ _ rfl (Bk.new _ _ (by simp)) (by omega) (by simp;omega) ?_;intro g3 v5 w3 y0 I v9)
    have Z:=(O.keep (aH (aH (tN _ w1) (.cells #[.int .i64 K,.int .i64 V,.int .i64 A,.int .i64 B] 233)) (.cells #[.int .i64 K,.int .i64 V,.int .i64 A,.int .i64 B,.int .i64 D] 55))).aU I (fun q e=>by have:=bU J q e;omega);have z7:tM W.heap.size W w3:=Below.aU (aH (aH x8 _) _) I (by simp;omega) (fun q e=>by have:=bU J q e;omega);have z0:W.heap.size+1<=w3.heap.size:=by have:=I.size;simp at this;omega
    go_roundw
    case rel=>exact⟨_,S,L++[(((K,V),(A,B)),D)],Z,HZ.out.1,HZ.out.2,y0,z0,z7⟩
    case measure=>rw[Z.count];omega
theorem Lq {M A l:List Rw}{s0:Sp}{D:Int}(hr:l[k]?=some (s0,D))(B:∀s,aK M s=aK (l.take k) s)(g:∀s,aK A s=if s0=s then aK M s0+D else aK M s)(s:Sp):aK A s=aK (l.take (k+1)) s:=by
 rw[g,fK hr,eG]
 by_cases e:s0=s
 ·rw[if_pos e,if_pos e,<-B,e]
 ·rw[if_neg e,if_neg e,B];omega
theorem Fm {W:oW}{b:Nat}{o:Obj}(h:k≠b):(setBlock W b o).heap[k]?=W.heap[k]?:=by
 simp only[setBlock,xU];rw[if_neg (Ne.symm h)]
theorem lQ {W:oW}{b g i:Nat}{o:Obj}(h:g≠b):(setBlock W b o).cell? ⟨g,i,none⟩=W.cell? ⟨g,i,none⟩:=oW.cell?_of_block (w:=W) (Fm h)
theorem rI (v:oU)(l:List Rw)(w:oW)(h:Rs w v l)(hl:l.length<=1000000)(ha:aJ l<=2305843009213693952)(hk:∀r∈l,spOk r.1):
  pU fM 155 #[v] w fun e w'=>∃o:oU,e=.returned o/\aC w' w.heap.size o (aO aW l)/\tM w.heap.size w w':=by
 have HA:Hid _:=ha;have HK:Hid _:=hk;obtain⟨a,a1,rfl,hc,hm,hn,R⟩:=Rs.open h;unfold maxLen at hm;have HC:=(show Hid _ from R);clear R h ha hk;have z3:=@run_makeMap fM;go_enter Tryz.func155,Tryz.ntmps155;go_wp2_with fail;have m0:bG xS spOk (w.alloc (.map #[] 0)) w.heap.size []:=bG.new w rfl;have x9:tM w.heap.size w (w.alloc (.map #[] 0)):=aH (tN _ _) _;clear z3
 go_loopw [9] (fun i wr=>∃(k:Nat)(M:List (Sp×Int)),k<=l.length/\i=.int .i64 k/\bG xS spOk wr w.heap.size M/\(∀s,aK M s=aK (l.take k) s)/\M.length<=k/\tM w.heap.size w wr) (fun i _=>l.length-(intOf i).toNat)
 case atStart=>exact⟨0,[],by omega,rfl,m0,fun s=>by simp,by simp,x9⟩
 case round=>
  clear m0 x9;obtain⟨k,M,w9,rfl,J,x1,a0,O⟩:=hrel;have HT:=(show Hid (∀s,aK M s=aK (l.take k) s) from x1);clear x1
  by_cases z4:k<l.length
  ·obtain⟨g,off,K,V,A,B,D,rfl,hg,hr,c0,c1,c2,c3,c4⟩:=HC.out k z4;have d0:=cB O c0;have d1:=cB O c1;have d2:=cB O c2;have d3:=cB O c3;have d4:=cB O c4;have HR:=(show Hid (l[k]?=some (((K,V),(A,B)),D)) from hr);have x2:=HK.out _ (nA hr);dsimp only at x2;clear c0 c1 c2 c3 c4 hr;have ik:((k:Int)<(l.length:Int)):=by omega
   have y0:=Bk.new (w:=wr) #[.int .i64 K,.int .i64 V,.int .i64 A,.int .i64 B,.int .i64 D] 55 rfl;have x3:tM wr.heap.size wr (wr.alloc (.cells #[.int .i64 K,.int .i64 V,.int .i64 A,.int .i64 B,.int .i64 D] 55)):=aH (tN _ _) _;have I:=J.keep x3;have z9:=aG O x3;have w8:=J.lt;have hne:wr.heap.size≠w.heap.size:=by omega
   have y1: -4611686018427387904<=aK M ((K,V),(A,B))+D/\aK M ((K,V),(A,B))+D<=4611686018427387904:=by
    have h1:=iT (l.take (k+1)) ((K,V),(A,B));rw[fK HR.out,eG,if_pos rfl,<-HT.out]at h1;have h2:=pZ l (k+1);rw[fK HR.out]at h2;have:=HA.out;omega
   go_upto_region 5 with fail
   clear d0 d1 d2 d3 d4 J O x3;generalize wr.heap.size=G at*;generalize oW.alloc _ _=H at*;have x8:tM H.heap.size H H.drew:=(tN _ _).drew;obtain⟨w7,w6⟩:=y1;have HX:Hid (∀V',tM H.heap.size H V'->V'.cell? ⟨G,0,none⟩=some (.int .i64 K)/\V'.cell? ⟨G,1,none⟩=some (.int .i64 V)/\V'.cell? ⟨G,2,none⟩=some (.int .i64 A)/\V'.cell? ⟨G,3,none⟩=some (.int .i64 B)/\V'.cell? ⟨G,4,none⟩=some (.int .i64 D)):=fun V' S=>(y0.keep S).ag;have v1:Hid (∀V' o,tM H.heap.size H V'->(setBlock V' w.heap.size o).cell? ⟨G,0,none⟩=some (.int .i64 K)/\(setBlock V' w.heap.size o).cell? ⟨G,1,none⟩=some (.int .i64 V)/\(setBlock V' w.heap.size o).cell? ⟨G,2,none⟩=some (.int .i64 A)/\(setBlock V' w.heap.size o).cell? ⟨G,3,none⟩=some (.int .i64 B)/\(setBlock V' w.heap.size o).cell? ⟨G,4,none⟩=some (.int .i64 D)):=fun V' o S=>by
    rw[lQ hne,lQ hne,lQ hne,lQ hne,lQ hne];exact HX.out V' S
   have v3:Hid (∀V',tM H.heap.size H V'->(Instr.lookup 231 (.map (some w.heap.size)) (xS ((K,V),(A,B))) false).run fM V'=.ok (.int .i64 (aK M ((K,V),(A,B)))) V'):=fun V' S=>bG.look (I.keep S) Po gD iL x2;have v5:Hid (∀V',tM H.heap.size H V'->∃(st:Nat)(Y U:Obj)(Z:List (Sp×Int)),(Instr.mapEntry 231 (.map (some w.heap.size)) (xS ((K,V),(A,B)))).run fM V'=.ok (.tuple #[.int .i64 (aK M ((K,V),(A,B))),.int .i64 (st:Int)]) (setBlock V' w.heap.size Y) /\
     (Instr.lookup 231 (.map (some w.heap.size)) (xS ((K,V),(A,B))) false).run fM (setBlock V' w.heap.size Y)=.ok (.int .i64 (aK M ((K,V),(A,B)))) (setBlock V' w.heap.size Y) /\
     (Instr.entryStore 231 (.map (some w.heap.size)) (.int .i64 (st:Int)) (.int .i64 (aK M ((K,V),(A,B))+D))).run fM (setBlock V' w.heap.size Y)=.ok () (setBlock V' w.heap.size U) /\
     bG xS spOk (setBlock V' w.heap.size U) w.heap.size Z/\(∀s,aK Z s=aK (l.take (k+1)) s)/\Z.length<=M.length+1/\tM w.heap.size w (setBlock V' w.heap.size U)):=fun V' S=>by
    obtain⟨st,Y,U,Z,e1,e2,e3,x5,z1,x7⟩:=bG.enter (I.keep S) Po gD iL x2 (aK M ((K,V),(A,B))+D);exact⟨st,Y,U,Z,e1,e2,e3,x5,Lq HR.out HT.out z1,x7,eR (aG z9 S) (Nat.le_refl _)⟩
   clear I y0;generalize hT:aK M ((K,V),(A,B))=T at*;clear hT;have iw:IntKind.i64.wrap (T+D)=T+D:=by rw[IntKind.wrap_i64];omega
   go_wp2_with fail
   go_region_held3 (fun V'=>V'.cell? ⟨G,0,none⟩=some (.int .i64 K)/\V'.cell? ⟨G,1,none⟩=some (.int .i64 V)/\V'.cell? ⟨G,2,none⟩=some (.int .i64 A)/\V'.cell? ⟨G,3,none⟩=some (.int .i64 B)/\V'.cell? ⟨G,4,none⟩=some (.int .i64 D))
    (first|exact v1.out _ _ hq|exact HX.out _ hq|exact HX.out _ x8)
    (first
     | (go_at_call 202;refine (JS K V A B D _).mono ?_;rintro e wc ⟨rfl,z8⟩;have hq:tM H.heap.size H wc:=aG x8 z8;have e0:=v3.out _ hq;obtain⟨st,Y,U,Z,e1,e2,e3,x5,HN,x7,x4⟩:=v5.out _ hq))
   all_goals
    clear e0 e1 e2 e3;generalize setBlock _ w.heap.size U=w2 at*;go_wp2_with fail;go_roundw
    case rel=>exact⟨k+1,Z,by omega,by go_num,x5,HN,by omega,x4⟩
    case measure=>simp[intOf];omega
  ·obtain rfl:k=l.length:=by omega
   have v2:Hid (∀s,aK M s=aK l s):=fun s=>by rw[HT.out,nT]
   have z7:=O.size;clear HT HC HK;go_wp2_with fail;refine (JI w.heap.size M l wr J v2.out (by omega)).mono ?_;rintro e w2 ⟨o,rfl,x0,x4⟩;have O2:Hid (aC w2 wr.heap.size o (aO aW l)):=x0;clear x0;go_wp2_with fail;go_ret;exact⟨_,rfl,cW O2.out z7,aG O x4⟩
theorem zK {r:Rw}(h:dG r=true):spOk r.1:=by
 simp only[dG,cG,bM,Bool.and_eq_true,decide_eq_true_eq]at h;unfold spOk nG;omega
theorem zY (v:oU)(l:List Rw)(w:oW)(h:Rs w v l)(hl:l.length<=1000000)(ha:aJ l<=2305843009213693952)(J:∀r∈l,spOk r.1):
  pU fM 87 #[v] w fun e G=>∃o:oU,e=.returned o/\aC G w.heap.size o (kS l)/\tM w.heap.size w G:=by
 have S:=gP aW l;have H:=rI v l w h hl ha J;clear h J ha;go_enter Tryz.func87,Tryz.ntmps87;go_wp2_with fail;refine H.mono ?_;rintro e w1 ⟨I,rfl,g,B⟩;have M:=aC.rs g (by omega);have R:Hid (aC w1 w.heap.size I (aO aW l)):=g;clear g H;cases s:aZ (aO aW l)
 ·have HF:Hid (kS l=[]):=PV s;go_wp2_with fail;refine (iR s M).mono ?_;rintro e D ⟨rfl,A⟩;go_wp2_with fail;go_ret;refine⟨_,rfl,?_,aG B A⟩;rw[HF.out];exact oN _ _ _ _ _
 ·have HF:Hid (kS l=aO aW l):=ID s;go_wp2_with fail;refine (iR s M).mono ?_;rintro e D ⟨rfl,A⟩;have O:Hid (aC D w.heap.size I (aO aW l)):=cC R.out A;go_wp2_with fail;go_ret;refine⟨_,rfl,?_,aG B A⟩;rw[HF.out];exact O.out
open Go.Shelf
theorem Fi {v:oU}{l:List Rw}(h:Rs w v l):∃(ad:Option tL)(s:Nat),v=.slice ad l.length s/\(l≠[]->∃g off,ad=some ⟨g,off,none⟩/\∀j u,(l.flatMap iE)[j]?=some u->w.cell? ((⟨g,off,none⟩:tL).add j)=some u):=by
 obtain⟨a,s,rfl,J,hm,hn,h4⟩:=h;refine⟨a,s,rfl,fun hne=>?_⟩;have h0:0<l.length:=nB.2 hne;obtain⟨g,off,rfl,hg,_⟩:=h4 0 l[0] (mO h0);refine⟨g,off,rfl,fun j u B=>?_⟩;have I:j<l.length*5:=by
  have:=(jO.1 B).1
  rwa [lH jP]at this
 have hq:j / 5<l.length:=by omega
 obtain⟨M,H,e,_,c⟩:=h4 (j / 5) l[j / 5] (mO hq);simp only[Option.some.injEq,tL.mk.injEq]at e;obtain⟨rfl,rfl,_⟩:=e;have A:=c (j%5) (Nat.mod_lt _ (by omega));have G:=qH jP l (mO hq) (j:=j%5) (Nat.mod_lt _ (by omega));have D:j / 5*5+j%5=j:=by omega
 rw[D]at G;rw[Nat.add_assoc,D]at A;rw[Go.WideShapes.add_plain];rw[A,<-G,B]
theorem FO (l:List Rw):∀u∈l.flatMap iE,u.oneCell'=true:=by
 intro u g;obtain⟨r,_,hr⟩:=List.mem_flatMap.1 g;exact BZ r u hr
theorem NV (ad:Option tL)(c:Nat):_root_.Go.Src fM 5 28 (.slice ad 0 c) 0 [] w:=by
 cases ad with
 | none=>exact _root_.Go.Src.ofNil w fQ c
 | some a=>exact _root_.Go.Src.ofSlice w fQ a 0 c [] rfl (by simp) (by simp)
theorem AR {B:Nat}{v:oU}{l:List Rw}(h:aC w B v l)(ad:Option tL)(c:Nat)(s:TypeId):(tK.append_ #[28,28] s #[v,.slice ad 0 c]).run fM w=.ok v w:=by
 obtain⟨i0,hi,H,A,G⟩:=tJ rU;have hs:_root_.Go.Src fM i0.size 28 (.slice ad 0 c) 0 [] w:=by rw[A];exact NV ad c
 rcases fX h jP with⟨rfl,rfl⟩|⟨g,D,O,rfl,hg,M,I,J,hm,_⟩
 ·simp[tK.append_,run_underlying fQ,sizeOf,typeInfo,hi,hs.len,hs.cells]
 ·have:=run_append_room_src (P:=fM) w 28 28 s 55 i0 fQ hi g 0 l.length D _ 0 [] hs (by omega) (by simp) (by simp);exact this
section
variable {ops:Array Oper}{rest:List Oper}{o:Oper}{a:Act}{Q:Exit->Act->oW->Prop}
theorem oG (w:oW)(J:o.guard=none)(s x:Operand)(ho:o.op=.call { callee:= .builtin .append,args:=#[s,x],argTypes:=#[28,28] })
  (A:Nat) (v:oU) (l:List Rw) (hs:a.eval s=v) (B:aC w A v l) (T:oU) (m:List Rw) (hx:a.eval x=T) (hR:Rs w T m) (hl:l.length+m.length<=2000000) (I:A<=w.heap.size)
  (h:∀v' D,aC D A v' (l++m)->w.grownBy D v.ownBlock->wpList fM ops Q rest (a.put o.dst v') D):
  wpList fM ops Q (o::rest) a w:=by
 obtain⟨i0,hi,Y,V,U⟩:=tJ rU;obtain⟨ad,M,rfl,O⟩:=Fi hR
 by_cases G:m=[]
 ·subst G;refine wpList_plain J fun K' Z=>?_;have R:=AR B ad M o.type;unfold Oper.wp;simp[execOp,ho,resolve,invoke,builtin,hs,hx,R,Result.andThen];exact Z _ _ (h v w (by simpa using B) ⟨rfl,rfl,rfl,Nat.le_refl _,fun _ _ _=>rfl⟩)
 ·obtain⟨g,off,rfl,H⟩:=O G;have S:0<m.length:=nB.2 G;refine wpList_append_lies w J s x 28 ho A 55 i0 _ 5 40 fQ hi Y V U rfl (by decide) v l.length (l.flatMap iE) hs B ⟨g,off,none⟩ m.length M (m.flatMap iE) hx (lH jP m) H (FO m) S (by unfold maxLen;omega) (by omega) I w.heap.size rfl ?_;intro g' x0 D h1 h2 _ _;refine h _ D ?_ h2
  show D.ownsRow _ _ _ _ _ _
  rw[List.flatMap_append,List.length_append];exact h1
end
theorem KI (n:Nat)(hn:n<=2000000)(w:oW):
  pU fM 156 #[.slice none 0 0,.int .i64 n] w fun e g=>∃v:oU,e=.returned v/\aC g w.heap.size v []/\tM w.heap.size w g:=by
 obtain⟨i0,hi,B,I,A⟩:=tJ rU
 by_cases h0:n=0
 ·subst h0;refine (Any8.slices_Grow_room growR none 0 0 0 w (by omega) (by omega) (by omega) (by omega)).mono ?_;rintro e g ⟨rfl,rfl⟩;exact⟨_,rfl,oN _ _ _ _ _,tN _ _⟩
 ·refine (Any8.slices_Grow_grow growR i0 _ hi B (by omega) none 0 0 n [] w (by omega) (by omega) (by rw[A];omega) (by omega) (by simp) (fun _=>rfl) (fun a ha=>by cases ha)).mono ?_;rintro e g ⟨rfl,rfl⟩;have D:=grownCap_ge w (0+n) 0 (growR_ren.t 25);have s:=grownCap_le_maxLen w (0+n) 0 (growR_ren.t 25) (by unfold maxLen;omega);generalize grownCap w (0+n) 0 (growR_ren.t 25)=G at D s ⊢;have H:(oU.agg #[.int .i64 0,.int .i64 0,.int .i64 0,.int .i64 0,.int .i64 0]).cells.size=5:=by simp[oU.cells]
  refine⟨_,rfl,⟨by simp,.inr ⟨w.heap.size,G,_,rfl,Nat.le_refl _,heap_alloc_new w.drew _,Nat.zero_le _,s,?_,by simp⟩⟩,aH (tN _ w).drew _⟩;simp only[Array.size_append,tK.zeroCells,Array.size_map,Array.size_range,H];simp;omega
theorem MZ {k:Int}{n:Nat}(h:k=(n:Int))(hn:n<=2000000)(w:oW):
  pU fM 156 #[.slice none 0 0,.int .i64 k] w fun e g=>∃v:oU,e=.returned v/\aC g w.heap.size v []/\tM w.heap.size w g:=by
 subst h;exact KI n hn w
theorem Ea {a b:List Rw}(h:aZ a=true)(g:aZ b=true):aJ (a++b)<=79999200:=by
 rw[cV];have:=mF h;have:=mF g;omega
theorem OH {a b:List Rw}(h:aZ a=true)(g:aZ b=true):∀r∈a++b,spOk r.1:=fun r hr=>by
 rcases List.mem_append.1 hr with hr|hr
 ·exact zK (eZ h hr)
 ·exact zK (eZ g hr)
theorem Hu (a:Option tL)(n c:Nat)(w:oW):(binOp .eql 28 (.slice a n c) (.slice none 0 0)).run fM w=.ok (.bool a.isNone) w:=by
 simp[binOp,run_equal_slice_nil w 28 55 a n c fQ]
theorem Js (v:oU)(l:List Rw)(w:oW)(h:Rs w v l)(hl:l.length<=2000000):
  pU fM 153 #[v] w fun e H=>∃o:oU,e=.returned o/\aC H w.heap.size o l/\tM w.heap.size w H:=by
 have T:Hid (Rs w v l):=h;obtain⟨a,D,rfl,-,-,-,s⟩:=h;cases a with
 | none=>
  have h0:l=[]:=by
   cases l with
   | nil=>rfl
   | cons x l=>obtain⟨g,off,e,_⟩:=s 0 x rfl;cases e
  subst h0;clear s;have hq:=Hu none 0 D;simp only[Option.isNone_none]at hq;go_enter iP,gX;go_wp2_with fail;go_ret;exact⟨_,rfl,oN _ _ _ _ _,tN _ _⟩
 | some ad=>
  clear s;have hq:=Hu (some ad) l.length D;simp only[Option.isNone_some]at hq;have M:=lT w rfl;have B:tM w.heap.size w (w.alloc (.cells #[] 55)):=aH (tN _ _) _;have R:=T.out.keep B;go_enter iP,gX
  go_wp2_with (at_builtin;refine oG _ rfl _ _ rfl w.heap.size _ [] rfl M _ l rfl R (by simp;omega) (by simp) ?_;intro O G A I)
  have J:tM w.heap.size w G:=Below.aU B I (by simp) (bU M);have S:Hid (aC G w.heap.size O l):=by show aC _ _ _ _;simpa using A
  clear A;go_ret;exact⟨_,rfl,S.out,J⟩
def rN (f:Rw->Rw)(l:List Rw)(k:Nat):List Rw:=(l.take k).map f++l.drop k
theorem Mm (f:Rw->Rw)(l:List Rw):rN f l 0=l:=by simp[rN]
theorem Oz (f:Rw->Rw)(l:List Rw):rN f l l.length=l.map f:=by simp[rN]
theorem Q6 (f:Rw->Rw){l:List Rw}{x:Rw}(h:l[k]?=some x):(rN f l k)[k]?=some x:=by
 have g:=(jO.1 h).1;unfold rN;rw[List.getElem?_append_right (by simp;omega)];simp;have:min k l.length=k:=by omega
 rw[this];simpa using h
theorem P0 (f:Rw->Rw){l:List Rw}{x:Rw}(h:l[k]?=some x):(rN f l k).set k (f x)=rN f l (k+1):=by
 have g:=(jO.1 h).1;unfold rN;rw[fK h,qW h,nX,List.append_assoc];rw[List.set_append_right _ _ (by simp;omega)];have:k-((l.take k).map f).length=0:=by simp;omega
 rw[this];simp
theorem jJ.diff {c:Array oU}{L:List Rw}{n i:Nat}{s:Sp}{d:Int}(h:jJ iE 5 c L n)(hi:L[i]?=some (s,d))(g:i<n)(hs:i*5+4<c.size)(B:Int):
  jJ iE 5 (c.setIfInBounds (i*5+4) (.int .i64 B)) (L.set i (s,B)) n:=by
 intro j x D hx q hq;have A:=(jO.1 hi).1;rw[List.getElem?_set]at hx;rw[xU]
 by_cases e:i=j
 ·subst e;rw[if_pos rfl,if_pos A]at hx;cases hx;obtain rfl|G:q=4\/q<4:=by omega
  ·rw[if_pos rfl,if_pos hs];rfl
  ·rw[if_neg (by omega),h i _ g hi q hq];obtain rfl|rfl|rfl|rfl:q=0\/q=1\/q=2\/q=3:=by omega
   all_goals rfl
 ·rw[if_neg e]at hx;rw[if_neg (by omega)];exact h j x D hx q hq
def negR (r:Rw):Rw:=(r.1,-r.2)
theorem Mr (l:List Rw):eQ l=l.map negR:=rfl
theorem Hr {l:List Rw}(h:aZ l=false):dW l=[]:=by simp[dW,h]
theorem FD {l:List Rw}(h:aZ l=true):dW l=kS (eQ l):=by simp[dW,h]
theorem Ml (l:List Rw):(dW l).length<=400:=by
 unfold dW;split
 ·exact Lc _
 ·simp
theorem Ht (l:List Rw):aJ (eQ l)=aJ l:=by
 unfold eQ
 induction l with
 | nil=>rfl
 | cons r l ih=>simp only[List.map_cons,aJ,ih];omega
theorem Q7 {l:List Rw}(h:aZ l=true):∀r∈eQ l,spOk r.1:=fun r hr=>by
 obtain⟨q,hq,rfl⟩:=List.mem_map.1 hr;have:spOk q.1:=zK (eZ h hq);exact this
theorem Dk (v:oU)(l:List Rw)(w:oW)(h:Rs w v l):
  pU fM 84 #[v] w fun e w'=>∃o:oU,e=.returned o/\aC w' w.heap.size o (dW l)/\tM w.heap.size w w':=by
 cases I:aZ l
 ·have HF:Hid (dW l=[]):=Hr I;go_enter jB,iM;go_wp2_with fail;refine (iR I h).mono ?_;rintro e w1 ⟨rfl,J⟩;go_wp2_with fail;go_ret;refine⟨_,rfl,?_,J⟩;rw[HF.out];exact oN _ _ _ _ _
 have HF:Hid (dW l=kS (eQ l)):=FD I;have ha:=mF I;have y7:=Ht l;have hl:=i6 I;have h9:Hid (∀r∈eQ l,spOk r.1):=Q7 I;have HB:Hid (∀i s d,l[i]?=some (s,d) -> -99999<=d/\d<=99999):=fun i s d hi=>mG (eZ I (nA hi));have V:(eQ l).length=l.length:=by simp[eQ]
 go_enter jB,iM;go_wp2_with fail;refine (iR I h).mono ?_;rintro e w1 ⟨rfl,J⟩;have h1:=h.keep J;have y6:=J.size;clear h;go_wp2_with fail;refine (Js _ l _ h1 (by omega)).mono ?_;rintro e w2 ⟨o2,rfl,H,x0⟩;have Z:=aG J x0;have y5:=x0.size;clear h1
 rcases fX H jP with⟨rfl,rfl⟩|⟨g,U,c,rfl,hg,B,G,x8,hm,A⟩
 ·have R2:Rs w2 (.slice none 0 0) []:=aC.rs H (by simp);clear H;go_wp2_with fail;refine qV 1 ?_;rw[sD];go_wp2_with fail;refine (zY _ (eQ []) _ R2 (by simp[eQ]) (by simp[eQ,aJ]) h9.out).mono ?_;rintro e w3 ⟨o3,rfl,D,T⟩;have O3:Hid (aC w3 w2.heap.size o3 (kS (eQ []))):=D;clear D;go_wp2_with fail;go_ret;refine⟨_,rfl,?_,aG Z T⟩;rw[HF.out];exact cW O3.out (by omega)
 ·clear H;unfold maxLen at hm;have R:Hid (c.size=U*5):=G;have O:Hid (jJ iE 5 c l l.length):=A;clear G A;go_wp2_with fail
  go_loopw [12] (fun i wr=>∃(k:Nat)(M:Array oU),k<=l.length/\i=.int .i64 k/\Bk wr g M 55/\M.size=U*5/\jJ iE 5 M (rN negR l k) l.length/\Bx g w2 wr) (fun i _=>l.length-(intOf i).toNat)
  case atStart=>exact⟨0,c,by omega,rfl,B,R.out,by rw[Mm];exact O.out,Bx.refl _ _⟩
  case round=>
   clear B R O;obtain⟨k,M,y8,rfl,B,G,A,hx⟩:=hrel;have R:Hid (M.size=U*5):=G;have O:Hid (jJ iE 5 M (rN negR l k) l.length):=A
   by_cases Y:k<l.length
   ·obtain⟨⟨s,d⟩,hr⟩:∃r,l[k]?=some r:=⟨_,mO Y⟩;obtain⟨z1,z0⟩:=HB.out k s d hr;have hat:=Q6 negR hr;have S:M[k*5+4]?=some (.int .i64 d):=A k (s,d) Y hat 4 (by omega);have d4:=B.cell S;have f4:=B.free (k*5+4);have HN:Hid (jJ iE 5 (M.setIfInBounds (k*5+4) (.int .i64 (-d))) (rN negR l (k+1)) l.length):=by
     have h1:=jJ.diff A hat Y (by omega) (-d);rw[<- P0 negR hr];exact h1
    have y0:=B.set (k*5+4) (.int .i64 (-d));have x6:=hx.bj (p:=⟨g,k*5+4,none⟩) rfl (.int .i64 (-d));clear G A hr hat S;have ik:((k:Int)<(l.length:Int)):=by omega
    go_wp2_with fail;go_roundw
    case rel=>exact⟨k+1,_,by omega,by go_num,y0,by simpa using R.out,HN.out,x6⟩
    case measure=>simp[intOf];omega
   ·obtain rfl:k=l.length:=by omega
    have R3:Rs wr (.slice (some ⟨g,0,none⟩) l.length U) (eQ l):=by
     have h1:=O.out;rw[Oz,<-Mr]at h1;have:=pD.dt (l:=eQ l) B (by rw[V];exact h1) jP (by rw[V];exact x8) (by unfold maxLen;exact hm) (by omega)
     rwa [V]at this
    have T:tM w.heap.size w wr:=hx.below Z (by omega) (by omega);have x7:=T.size;clear G A R O B hx;go_wp2_with fail;refine (zY _ (eQ l) _ R3 (by omega) (by omega) h9.out).mono ?_;rintro e w3 ⟨o3,rfl,D,x9⟩;have O3:Hid (aC w3 wr.heap.size o3 (kS (eQ l))):=D;clear D;go_wp2_with fail;go_ret;refine⟨_,rfl,?_,aG T x9⟩;rw[HF.out];exact cW O3.out x7
theorem Mt {l:List Rw}{s:Sp}{d:Int}(h:l[k]?=some (s,d)):eQ (l.take (k+1))=eQ (l.take k)++[(s,-d)]:=by
 unfold eQ;rw[fK h,nX];rfl
theorem NY:kS []=[]:=by unfold kS aO iF;exact Ps vE
theorem oP (v:oU)(l:List Rw)(w:oW)(h:Rs w v l):
  pU fM 78 #[v] w fun e w'=>∃o:oU,e=.returned o/\aC w' w.heap.size o (dW l)/\tM w.heap.size w w':=by
 have o0:=lT w rfl;have U:=aH (tN w.heap.size w) (.cells #[] 55)
 -- what follows the loop
 have fin:∀(W:oW)(o:oU)(L:List Rw),aC W w.heap.size o L->L.length<=400->aJ L<=99999*400->tM w.heap.size w W ->
   pU fM 77 #[o] W fun e w'=>∃o':oU,e=.returned o'/\aC w' w.heap.size o' (aO aW L)/\tM w.heap.size w w':=fun W o L hO hL hA hB=>by
  refine (kY o L W (aC.rs hO (by omega)) (by omega) (by omega)).mono ?_;rintro e w' ⟨o',he,h1,h2⟩;exact⟨o',he,cW h1 hB.size,aG hB h2⟩
 have y3:Hid _:=fin;clear fin;cases Z:aZ l
 ·have HF:Hid (dW l=[]):=Hr Z;have HS:Hid (kJ (aO aW [])=[]):=NY;obtain⟨a,z0,hv,_,_,_,_⟩:=Rs.open h;have HV:Hid _:=hv
  by_cases hz:l.length=0
  ·subst hv;generalize l.length=n at*;subst hz;go_enter gQ,gM;go_wp2_with fail;refine qV 1 ?_;rw[sD];go_wp2_with fail;refine (y3.out _ _ [] o0 (by simp) (by simp[aJ]) U).mono ?_;rintro e w2 ⟨o2,rfl,H,I⟩;have S:=I.size;have O2:Hid (aC w2 w.heap.size o2 (aO aW [])):=H;clear H;go_wp2_with fail;refine (uC O2.out (by simp[aO,iF]) S).mono ?_;rintro e Y ⟨o3,rfl,G,M⟩;have O3:Hid (aC Y w.heap.size o3 (kJ (aO aW []))):=G;clear G;go_wp2_with fail;go_ret;refine⟨_,rfl,?_,aG I M⟩;rw[HF.out,<-HS.out];exact O3.out
  ·have h1:=h.keep U;have v1:decide ((0:Int)<(l.length:Int))=true:=by simp;omega
   subst hv;have HH:Hid (Rs (w.alloc (.cells #[] 55)) (.slice a l.length z0) l):=h1;generalize hn:l.length=n at*;go_enter gQ,gM;go_wp2_with fail;refine qV 1 ?_;rw[sD];go_wp2_with fail;refine (sR Z HH.out).mono ?_;rintro e w1 ⟨rfl,O⟩;have J:=aG U O;have o1:=cC o0 O;go_wp2_with fail;refine (y3.out _ _ [] o1 (by simp) (by simp[aJ]) J).mono ?_;rintro e w2 ⟨o2,rfl,H,I⟩;have S:=I.size;have O2:Hid (aC w2 w.heap.size o2 (aO aW [])):=H;clear H;go_wp2_with fail;refine (uC O2.out (by simp[aO,iF]) S).mono ?_;rintro e Y ⟨o3,rfl,G,M⟩;have O3:Hid (aC Y w.heap.size o3 (kJ (aO aW []))):=G;clear G;go_wp2_with fail;go_ret;refine⟨_,rfl,?_,aG I M⟩;rw[HF.out,<-HS.out];exact O3.out
 have HF:Hid (dW l=kJ (aO aW (eQ l))):=FD Z;have ha:=mF Z;have w7:=Ht l;have hl:=i6 Z;have w4:=gP aW (eQ l);have w6:(eQ l).length=l.length:=by simp[eQ]
 have HB:Hid (∀i s d,l[i]?=some (s,d) -> -99999<=d/\d<=99999):=fun i s d hi=>mG (eZ Z (nA hi));have HH:Hid (Rs w v l):=h;obtain⟨a,z0,rfl,hc,hm,hn,T⟩:=Rs.open h;unfold maxLen at hm;have HC:=(show Hid _ from T);clear T h;go_enter gQ,gM;go_wp2_with fail
 go_loopw [3,4] (fun o i wr=>∃k:Nat,k<=l.length/\i=.int .i64 k/\aC wr w.heap.size o (eQ (l.take k))/\tM w.heap.size w wr) (fun _ i _=>l.length-(intOf i).toNat)
 case atStart=>exact⟨0,by omega,rfl,o0,U⟩
 case round=>
  clear o0 U;obtain⟨k,w9,rfl,x8,hb⟩:=hrel;have HO:Hid (aC wr w.heap.size u3 (eQ (l.take k))):=x8;clear x8
  by_cases z4:k<l.length
  ·obtain⟨g,off,K,V,A,B,D,rfl,hg,hr,c0,c1,c2,c3,c4⟩:=HC.out k z4;obtain⟨a1,a0⟩:=HB.out _ _ _ hr;have HZ:=(show Hid _ from Mt hr);have HX:Hid (∀W,tM w.heap.size w W->W.cell? ⟨g,off+k*5,none⟩=some (.int .i64 K)/\W.cell? ⟨g,off+k*5+1,none⟩=some (.int .i64 V)/\W.cell? ⟨g,off+k*5+2,none⟩=some (.int .i64 A)/\W.cell? ⟨g,off+k*5+3,none⟩=some (.int .i64 B)/\W.cell? ⟨g,off+k*5+4,none⟩=some (.int .i64 D)):=
    fun W hW=>⟨cB hW c0,cB hW c1,cB hW c2,cB hW c3,cB hW c4⟩
   have hL:(eQ (l.take k)).length<=400:=by simp[eQ];omega
   have R:=HH.out.keep hb;have ik:decide ((k:Int)<(l.length:Int))=true:=by simp;omega
   clear c0 c1 c2 c3 c4 hr;go_wp2_with fail;refine (sR Z R).mono ?_;rintro e w1 ⟨rfl,O⟩;have J:=aG hb O;obtain⟨x0,x1,x2,x3,x4⟩:=HX.out w1 J;have O1:aC w1 w.heap.size u3 (eQ (l.take k)):=cC HO.out O;have w5:=J.size;clear HO R hb O;generalize eQ (l.take k)=L at*
   go_wp2_with (at_builtin;refine kR _ rfl _ _ rfl w.heap.size _ _ rfl ((O1.alloc _).alloc _) _ _ _ _ _ _ rfl (Bk.new _ _ (by simp)) (by omega) (by simp;omega) ?_;intro g3 v5 Y G y6 w8)
   have M:tM w.heap.size w Y:=Below.aU (aH (aH J _) _) y6 (by simp;omega) (bU O1);go_roundw
   case rel=>
    refine⟨k+1,by omega,by go_num,?_,M⟩;rw[HZ.out];exact G
   case measure=>simp[intOf];omega
  ·obtain rfl:k=l.length:=by omega
   have O1:Hid (aC wr w.heap.size u3 (eQ l)):=by have:=HO.out;rw[nT]at this;exact this
   clear HO;go_wp2_with fail;refine (y3.out _ _ (eQ l) O1.out (by omega) (by omega) hb).mono ?_;rintro e w2 ⟨o2,rfl,H,I⟩;have S:=I.size;have O2:Hid (aC w2 w.heap.size o2 (aO aW (eQ l))):=H;clear H O1;go_wp2_with fail;refine (uC O2.out (by omega) S).mono ?_;rintro e Y ⟨o3,rfl,G,M⟩;have O3:Hid (aC Y w.heap.size o3 (kJ (aO aW (eQ l)))):=G;clear G;go_wp2_with fail;go_ret;refine⟨_,rfl,?_,aG I M⟩;rw[HF.out];exact O3.out
end Go.Proofs.YtbdpcngcbnoioaaGreatDoor
