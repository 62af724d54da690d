import Derived.Test.YtbdpcngcbnoioaaGreatDoorGm1
import Derived.Test.YtbdpcngcbnoioaaGreatDoorGrw
import Derived.Deep.AppendSrc
import Derived.Test.YtbdpcngcbnoioaaGreatDoorGa8
set_option maxRecDepth 100000
set_option maxHeartbeats 8000000
namespace Go.Proofs.YtbdpcngcbnoioaaGreatDoor
open Go.RowKit
open Go.ChangeMaps (setBlock)
open Go.Proofs.Tryz renaming prog->fD,underlying28->fH,underlying231->fV,ntmps78->gY,ntmps27->gZ,func78->iC,func27->jU,ntmps153->kR,ntmps84->kX,func153->lI,func84->lY
open Go renaming Value->mF,rounds_succ->mJ,World->nU,wp_loop_rounds->oJ,Calls->oO,info_parts->qA,Builtin->rN,Addr->sE
open _root_.List renaming getElem?_eq_some_iff->sG,getElem?_eq_getElem->sH,mem_of_getElem?->sI,length_pos_iff->wH,take_length->wR,map_append->AT
open Go.RowKit renaming Below->B3
open Go.RowKit.Below renaming refl->BK
open _root_.Array renaming getElem?_setIfInBounds->E0
variable {k:Nat}{v:mF}{w:nU}
theorem sT:∀w:nU,(zeroValue 3).run fD w=.ok (.int .i64 0) w:=Tryz.zeroValue3
theorem Hj (K V A B D:Int)(w:nU):
  oO fD 202 #[rv K V A B D] w fun e g=>e=.returned (wC ((K,V),(A,B)))/\B3 w.heap.size w g:=by
 obtain⟨I,H,G,F,s⟩:=(Bk.new (w:=w) #[.int .i64 K,.int .i64 V,.int .i64 A,.int .i64 B,.int .i64 D] 55 rfl).aa;go_enter Tryz.func202,Tryz.ntmps202;go_wp2_with fail;refine bodyPost_ret (by simp[results,Tryz.results202,go_sem];try rfl) rfl ?_;exact⟨rfl,aG (aG (BK w.heap.size w) _) _⟩
theorem GX (mb:Nat)(M l:List (Sp×Int))(W:nU)(N:d9 wC spOk W mb M)(hT:∀s,aU M s=aU l s)(v0:M.length<=1000000):
  oO fD 203 #[.map (some mb)] W fun e w'=>∃o:mF,e=.returned o/\aD w' W.heap.size o (aP aQ l)/\B3 W.heap.size W w':=by
 have z5:Hid (∀s,aU M s=aU l s):=hT;have u8:=N.lt;clear hT;go_enter Tryz.func203,Tryz.ntmps203
 go_wp2_with (at_range;refine DJ _ rfl _ _ rfl _ _ fV _ M rfl N ?_;intro w0 g x7 y9)
 go_frame
 have x1:=x7;clear N x7
 go_loopw [3] (fun o wr=>∃(done left L:List (Sp×Int)),dP wC spOk wr mb W.heap.size M left/\M.Perm (done++left)/\L.Perm (done.filter fun r=>decide (r.2≠0))/\aD wr (W.heap.size+1) o L/\W.heap.size+1<=wr.heap.size/\B3 W.heap.size W wr) (fun _ wr=>D4 wr mb W.heap.size)
 case atStart=>exact⟨[],M,[],g,by simp,by simp,oN _ _ _ _ _,by omega,x1⟩
 case round=>
  clear g x1 y9;obtain⟨done,left,L,g,Z,h9,x0,y6,hb⟩:=hrel;have F:=(show Hid _ from Z);have G:=(show Hid _ from h9);have HO:Hid (aD wr (W.heap.size+1) u3 L):=x0;have y0:=g.count;have v4:L.length<=M.length:=by
   have h1:=h9.length_eq;have h2:=List.length_filter_le (fun r:Sp×Int=>decide (r.2≠0)) done;have h3:=Z.length_eq;simp at h3;omega
  have hM:=(show Hid _ from g.nodup);clear Z h9 x0
  go_wp2_with (at_next;refine Fg _ rfl _ rfl _ _ M left rfl g ?_ ?_)
  ·intro hz;subst hz;have I:aD wr (W.heap.size+1) u3 L:=HO.out;have R:L.Perm (M.filter fun r=>decide (r.2≠0)):=by
    have h1:=F.out;rw[List.append_nil]at h1;exact G.out.trans (h1.filter _).symm
   have HD:=(show Hid _ from R);clear R HO F G y0;have z0:L.length<=2097152:=by omega
   go_wp2_with fail;refine (J9 I z0 y6).mono ?_;rintro e w2 ⟨rfl,l',hp,T,S,z3⟩;have x9:l'=aP aQ l:=collected eE hM.out z5.out HD.out hp T;have z1:B3 W.heap.size W w2:=hb.trans (z3.mono (by omega));have O2:Hid (aD w2 (W.heap.size+1) u3 l'):=S;clear S hp T I;go_wp2_with fail;go_ret;refine⟨_,rfl,?_,z1⟩;rw[<- x9];exact bQ O2.out (by omega)
  ·intro K V A B D O w1 hp J v3 hx y8 v2;have I:aD w1 (W.heap.size+1) u3 L:=zO HO.out hx (fun q e=>by have:=oB HO.out q e;omega);have x6:B3 W.heap.size W w1:=hx.below hb hb.size (by omega);have z8:W.heap.size+1<=w1.heap.size:=by omega
   have z6:=J.count;clear hx g hb HO y8
   by_cases hD:D=0
   ·subst hD;have HZ:=(show Hid _ from Ak F.out hp G.out rfl);have Y:=J.keep (aG (BK _ w1) (.cells #[.int .i64 K,.int .i64 V,.int .i64 A,.int .i64 B] 233));have O2:Hid (aD (w1.alloc (.cells #[.int .i64 K,.int .i64 V,.int .i64 A,.int .i64 B] 233)) (W.heap.size+1) u3 L):=I.alloc _;clear I F G hp;go_wp2_with fail;go_roundw
    case rel=>exact⟨_,O,L,Y,HZ.out.1,HZ.out.2,O2.out,by simp;omega,aG x6 _⟩
    case measure=>rw[Y.count];omega
   ·have nD:(D==0)=false:=by simpa using hD
    have HZ:=(show Hid _ from zU F.out hp G.out hD);clear F G hp
    go_wp2_with (at_builtin;refine jZ _ rfl _ _ rfl (W.heap.size+1) _ _ rfl ((I.alloc _).alloc _) _ _ _ _ _ _ rfl (Bk.new _ _ (by simp)) (by omega) (by simp;omega) ?_;intro g3 u0 w3 x8 H v1)
    have U:=(J.keep (aG (aG (BK _ w1) (.cells #[.int .i64 K,.int .i64 V,.int .i64 A,.int .i64 B] 233)) (.cells #[.int .i64 K,.int .i64 V,.int .i64 A,.int .i64 B,.int .i64 D] 55))).aO H (fun q e=>by have:=oB I q e;omega);have z2:B3 W.heap.size W w3:=Below.aO (aG (aG x6 _) _) H (by simp;omega) (fun q e=>by have:=oB I q e;omega);have y7:W.heap.size+1<=w3.heap.size:=by have:=H.size;simp at this;omega
    go_roundw
    case rel=>exact⟨_,O,L++[(((K,V),(A,B)),D)],U,HZ.out.1,HZ.out.2,x8,y7,z2⟩
    case measure=>rw[U.count];omega
theorem Jm {M A l:List Rw}{s0:Sp}{D:Int}(hr:l[k]?=some (s0,D))(B:∀s,aU M s=aU (l.take k) s)(g:∀s,aU A s=if s0=s then aU M s0+D else aU M s)(s:Sp):aU A s=aU (l.take (k+1)) s:=by
 rw[g,gL hr,kJ]
 by_cases e:s0=s
 ·rw[if_pos e,if_pos e,<-B,e]
 ·rw[if_neg e,if_neg e,B];omega
theorem El {W:nU}{b:Nat}{o:Obj}(h:k≠b):(setBlock W b o).heap[k]?=W.heap[k]?:=by
 simp only[setBlock,E0];rw[if_neg (Ne.symm h)]
theorem kO {W:nU}{b g i:Nat}{o:Obj}(h:g≠b):(setBlock W b o).cell? ⟨g,i,none⟩=W.cell? ⟨g,i,none⟩:=nU.cell?_of_block (w:=W) (El h)
theorem pR (v:mF)(l:List Rw)(w:nU)(h:Rs w v l)(hl:l.length<=1000000)(ha:aM l<=2305843009213693952)(hk:∀r∈l,spOk r.1):
  oO fD 155 #[v] w fun e w'=>∃o:mF,e=.returned o/\aD w' w.heap.size o (aP aQ l)/\B3 w.heap.size w w':=by
 have HA:Hid _:=ha;have HK:Hid _:=hk;obtain⟨a,w4,rfl,hc,hm,hn,N⟩:=Rs.open h;unfold maxLen at hm;have HC:=(show Hid _ from N);clear N h ha hk;have y9:=@run_makeMap fD;go_enter Tryz.func155,Tryz.ntmps155;go_wp2_with fail;have m0:d9 wC spOk (w.alloc (.map #[] 0)) w.heap.size []:=d9.new w rfl;have x7:B3 w.heap.size w (w.alloc (.map #[] 0)):=aG (BK _ _) _;clear y9
 go_loopw [9] (fun i wr=>∃(k:Nat)(M:List (Sp×Int)),k<=l.length/\i=.int .i64 k/\d9 wC spOk wr w.heap.size M/\(∀s,aU M s=aU (l.take k) s)/\M.length<=k/\B3 w.heap.size w wr) (fun i _=>l.length-(intOf i).toNat)
 case atStart=>exact⟨0,[],by omega,rfl,m0,fun s=>by simp,by simp,x7⟩
 case round=>
  clear m0 x7;obtain⟨k,M,v9,rfl,I,h9,w3,J⟩:=hrel;have HT:=(show Hid (∀s,aU M s=aU (l.take k) s) from h9);clear h9
  by_cases z0:k<l.length
  ·obtain⟨g,off,K,V,A,B,D,rfl,hg,hr,c0,c1,c2,c3,c4⟩:=HC.out k z0;have d0:=cB J c0;have d1:=cB J c1;have d2:=cB J c2;have d3:=cB J c3;have d4:=cB J c4;have HR:=(show Hid (l[k]?=some (((K,V),(A,B)),D)) from hr);have x0:=HK.out _ (sI hr);dsimp only at x0;clear c0 c1 c2 c3 c4 hr;have ik:((k:Int)<(l.length:Int)):=by omega
   have x8:=Bk.new (w:=wr) #[.int .i64 K,.int .i64 V,.int .i64 A,.int .i64 B,.int .i64 D] 55 rfl;have x1:B3 wr.heap.size wr (wr.alloc (.cells #[.int .i64 K,.int .i64 V,.int .i64 A,.int .i64 B,.int .i64 D] 55)):=aG (BK _ _) _;have H:=I.keep x1;have z4:=aH J x1;have v8:=I.lt;have hne:wr.heap.size≠w.heap.size:=by omega
   have x9: -4611686018427387904<=aU M ((K,V),(A,B))+D/\aU M ((K,V),(A,B))+D<=4611686018427387904:=by
    have h1:=pC (l.take (k+1)) ((K,V),(A,B));rw[gL HR.out,kJ,if_pos rfl,<-HT.out]at h1;have h2:=qQ l (k+1);rw[gL HR.out]at h2;have:=HA.out;omega
   go_upto_region 5 with fail
   clear d0 d1 d2 d3 d4 I J x1;generalize wr.heap.size=F at*;generalize nU.alloc _ _=G at*;have x6:B3 G.heap.size G G.drew:=(BK _ _).drew;obtain⟨v7,v6⟩:=x9;have HX:Hid (∀V',B3 G.heap.size G V'->V'.cell? ⟨F,0,none⟩=some (.int .i64 K)/\V'.cell? ⟨F,1,none⟩=some (.int .i64 V)/\V'.cell? ⟨F,2,none⟩=some (.int .i64 A)/\V'.cell? ⟨F,3,none⟩=some (.int .i64 B)/\V'.cell? ⟨F,4,none⟩=some (.int .i64 D)):=fun V' O=>(x8.keep O).aa;have z6:Hid (∀V' o,B3 G.heap.size G V'->(setBlock V' w.heap.size o).cell? ⟨F,0,none⟩=some (.int .i64 K)/\(setBlock V' w.heap.size o).cell? ⟨F,1,none⟩=some (.int .i64 V)/\(setBlock V' w.heap.size o).cell? ⟨F,2,none⟩=some (.int .i64 A)/\(setBlock V' w.heap.size o).cell? ⟨F,3,none⟩=some (.int .i64 B)/\(setBlock V' w.heap.size o).cell? ⟨F,4,none⟩=some (.int .i64 D)):=fun V' o O=>by
    rw[kO hne,kO hne,kO hne,kO hne,kO hne];exact HX.out V' O
   have z8:Hid (∀V',B3 G.heap.size G V'->(Instr.lookup 231 (.map (some w.heap.size)) (wC ((K,V),(A,B))) false).run fD V'=.ok (.int .i64 (aU M ((K,V),(A,B)))) V'):=fun V' O=>d9.look (H.keep O) NZ fV sT x0;have u0:Hid (∀V',B3 G.heap.size G V'->∃(Y:Nat)(S R:Obj)(U:List (Sp×Int)),(Instr.mapEntry 231 (.map (some w.heap.size)) (wC ((K,V),(A,B)))).run fD V'=.ok (.tuple #[.int .i64 (aU M ((K,V),(A,B))),.int .i64 (Y:Int)]) (setBlock V' w.heap.size S) /\
     (Instr.lookup 231 (.map (some w.heap.size)) (wC ((K,V),(A,B))) false).run fD (setBlock V' w.heap.size S)=.ok (.int .i64 (aU M ((K,V),(A,B)))) (setBlock V' w.heap.size S) /\
     (Instr.entryStore 231 (.map (some w.heap.size)) (.int .i64 (Y:Int)) (.int .i64 (aU M ((K,V),(A,B))+D))).run fD (setBlock V' w.heap.size S)=.ok () (setBlock V' w.heap.size R) /\
     d9 wC spOk (setBlock V' w.heap.size R) w.heap.size U/\(∀s,aU U s=aU (l.take (k+1)) s)/\U.length<=M.length+1/\B3 w.heap.size w (setBlock V' w.heap.size R)):=fun V' O=>by
    obtain⟨Y,S,R,U,e1,e2,e3,x3,y8,x5⟩:=d9.enter (H.keep O) NZ fV sT x0 (aU M ((K,V),(A,B))+D);exact⟨Y,S,R,U,e1,e2,e3,x3,Jm HR.out HT.out y8,x5,mL (aH z4 O) (Nat.le_refl _)⟩
   clear H x8;generalize hT:aU M ((K,V),(A,B))=T at*;clear hT;have iw:IntKind.i64.wrap (T+D)=T+D:=by rw[IntKind.wrap_i64];omega
   go_wp2_with fail
   go_region_held3 (fun V'=>V'.cell? ⟨F,0,none⟩=some (.int .i64 K)/\V'.cell? ⟨F,1,none⟩=some (.int .i64 V)/\V'.cell? ⟨F,2,none⟩=some (.int .i64 A)/\V'.cell? ⟨F,3,none⟩=some (.int .i64 B)/\V'.cell? ⟨F,4,none⟩=some (.int .i64 D))
    (first|exact z6.out _ _ hq|exact HX.out _ hq|exact HX.out _ x6)
    (first
     | (go_at_call 202;refine (Hj K V A B D _).mono ?_;rintro e wc ⟨rfl,z3⟩;have hq:B3 G.heap.size G wc:=aH x6 z3;have e0:=z8.out _ hq;obtain⟨Y,S,R,U,e1,e2,e3,x3,HN,x5,x2⟩:=u0.out _ hq))
   all_goals
    clear e0 e1 e2 e3;generalize setBlock _ w.heap.size R=w2 at*;go_wp2_with fail;go_roundw
    case rel=>exact⟨k+1,U,by omega,by go_num,x3,HN,by omega,x2⟩
    case measure=>simp[intOf];omega
  ·obtain rfl:k=l.length:=by omega
   have z7:Hid (∀s,aU M s=aU l s):=fun s=>by rw[HT.out,wR]
   have z2:=J.size;clear HT HC HK;go_wp2_with fail;refine (GX w.heap.size M l wr I z7.out (by omega)).mono ?_;rintro e w2 ⟨o,rfl,Z,x2⟩;have O2:Hid (aD w2 wr.heap.size o (aP aQ l)):=Z;clear Z;go_wp2_with fail;go_ret;exact⟨_,rfl,bQ O2.out z2,aH J x2⟩
theorem yA {r:Rw}(h:cU r=true):spOk r.1:=by
 simp only[cU,cH,bH,Bool.and_eq_true,decide_eq_true_eq]at h;unfold spOk nS;omega
theorem tU (v:mF)(l:List Rw)(w:nU)(h:Rs w v l)(hl:l.length<=1000000)(ha:aM l<=2305843009213693952)(I:∀r∈l,spOk r.1):
  oO fD 87 #[v] w fun e F=>∃o:mF,e=.returned o/\aD F w.heap.size o (iW l)/\B3 w.heap.size w F:=by
 have O:=i6 aQ l;have H:=pR v l w h hl ha I;clear h I ha;go_enter Tryz.func87,Tryz.ntmps87;go_wp2_with fail;refine H.mono ?_;rintro e w1 ⟨G,rfl,g,B⟩;have J:=aD.rs g (by omega);have N:Hid (aD w1 w.heap.size G (aP aQ l)):=g;clear g H;cases s:aR (aP aQ l)
 ·have HF:Hid (iW l=[]):=M5 s;go_wp2_with fail;refine (iR s J).mono ?_;rintro e D ⟨rfl,A⟩;go_wp2_with fail;go_ret;refine⟨_,rfl,?_,aH B A⟩;rw[HF.out];exact oN _ _ _ _ _
 ·have HF:Hid (iW l=aP aQ l):=BO s;go_wp2_with fail;refine (iR s J).mono ?_;rintro e D ⟨rfl,A⟩;have M:Hid (aD D w.heap.size G (aP aQ l)):=bJ N.out A;go_wp2_with fail;go_ret;refine⟨_,rfl,?_,aH B A⟩;rw[HF.out];exact M.out
open Go.Shelf
theorem Dh {l:List Rw}(h:Rs w v l):∃(ad:Option sE)(s:Nat),v=.slice ad l.length s/\(l≠[]->∃g off,ad=some ⟨g,off,none⟩/\∀j u,(l.flatMap fX)[j]?=some u->w.cell? ((⟨g,off,none⟩:sE).add j)=some u):=by
 obtain⟨a,s,rfl,I,hm,hn,h4⟩:=h;refine⟨a,s,rfl,fun hne=>?_⟩;have h0:0<l.length:=wH.2 hne;obtain⟨g,off,rfl,hg,_⟩:=h4 0 l[0] (sH h0);refine⟨g,off,rfl,fun j u B=>?_⟩;have H:j<l.length*5:=by
  have:=(sG.1 B).1
  rwa [lX jD]at this
 have hq:j / 5<l.length:=by omega
 obtain⟨J,G,e,_,c⟩:=h4 (j / 5) l[j / 5] (sH hq);simp only[Option.some.injEq,sE.mk.injEq]at e;obtain⟨rfl,rfl,_⟩:=e;have A:=c (j%5) (Nat.mod_lt _ (by omega));have F:=rI jD l (sH hq) (j:=j%5) (Nat.mod_lt _ (by omega));have D:j / 5*5+j%5=j:=by omega
 rw[D]at F;rw[Nat.add_assoc,D]at A;rw[Go.WideShapes.add_plain];rw[A,<-F,B]
theorem Di (l:List Rw):∀u∈l.flatMap fX,u.oneCell'=true:=by
 intro u g;obtain⟨r,_,hr⟩:=List.mem_flatMap.1 g;exact BE r u hr
theorem KJ (ad:Option sE)(c:Nat):_root_.Go.Src fD 5 28 (.slice ad 0 c) 0 [] w:=by
 cases ad with
 | none=>exact _root_.Go.Src.ofNil w fH c
 | some a=>exact _root_.Go.Src.ofSlice w fH a 0 c [] rfl (by simp) (by simp)
theorem A5 {B:Nat}{l:List Rw}(h:aD w B v l)(ad:Option sE)(c:Nat)(s:TypeId):(rN.append_ #[28,28] s #[v,.slice ad 0 c]).run fD w=.ok v w:=by
 obtain⟨i0,hi,G,A,F⟩:=qA qO;have hs:_root_.Go.Src fD i0.size 28 (.slice ad 0 c) 0 [] w:=by rw[A];exact KJ ad c
 rcases gE h jD with⟨rfl,rfl⟩|⟨g,D,M,rfl,hg,J,H,I,hm,_⟩
 ·simp[rN.append_,run_underlying fH,sizeOf,typeInfo,hi,hs.len,hs.cells]
 ·have:=run_append_room_src (P:=fD) w 28 28 s 55 i0 fH hi g 0 l.length D _ 0 [] hs (by omega) (by simp) (by simp);exact this
section
variable {ops:Array Oper}{rest:List Oper}{o:Oper}{a:Act}{Q:Exit->Act->nU->Prop}
theorem kZ (w:nU)(I:o.guard=none)(s x:Operand)(ho:o.op=.call { callee:= .builtin .append,args:=#[s,x],argTypes:=#[28,28] })
  (A:Nat) (v:mF) (l:List Rw) (hs:a.eval s=v) (B:aD w A v l) (R:mF) (m:List Rw) (hx:a.eval x=R) (Y:Rs w R m) (hl:l.length+m.length<=2000000) (H:A<=w.heap.size)
  (h:∀v' D,aD D A v' (l++m)->w.grownBy D v.ownBlock->wpList fD ops Q rest (a.put o.dst v') D):
  wpList fD ops Q (o::rest) a w:=by
 obtain⟨i0,hi,U,T,S⟩:=qA qO;obtain⟨ad,J,rfl,M⟩:=Dh Y
 by_cases F:m=[]
 ·subst F;refine wpList_plain I fun K' V=>?_;have N:=A5 B ad J o.type;unfold Oper.wp;simp[execOp,ho,resolve,invoke,builtin,hs,hx,N,Result.andThen];exact V _ _ (h v w (by simpa using B) ⟨rfl,rfl,rfl,Nat.le_refl _,fun _ _ _=>rfl⟩)
 ·obtain⟨g,off,rfl,G⟩:=M F;have O:0<m.length:=wH.2 F;refine wpList_append_lies w I s x 28 ho A 55 i0 _ 5 40 fH hi U T S rfl (by decide) v l.length (l.flatMap fX) hs B ⟨g,off,none⟩ m.length J (m.flatMap fX) hx (lX jD m) G (Di m) O (by unfold maxLen;omega) (by omega) H w.heap.size rfl ?_;intro g' Z D h1 h2 _ _;refine h _ D ?_ h2
  show D.ownsRow _ _ _ _ _ _
  rw[List.flatMap_append,List.length_append];exact h1
end
theorem Il (n:Nat)(hn:n<=2000000)(w:nU):
  oO fD 156 #[.slice none 0 0,.int .i64 n] w fun e g=>∃v:mF,e=.returned v/\aD g w.heap.size v []/\B3 w.heap.size w g:=by
 obtain⟨i0,hi,B,H,A⟩:=qA qO
 by_cases h0:n=0
 ·subst h0;refine (Any8.slices_Grow_room growR none 0 0 0 w (by omega) (by omega) (by omega) (by omega)).mono ?_;rintro e g ⟨rfl,rfl⟩;exact⟨_,rfl,oN _ _ _ _ _,BK _ _⟩
 ·refine (Any8.slices_Grow_grow growR i0 _ hi B (by omega) none 0 0 n [] w (by omega) (by omega) (by rw[A];omega) (by omega) (by simp) (fun _=>rfl) (fun a ha=>by cases ha)).mono ?_;rintro e g ⟨rfl,rfl⟩;have D:=grownCap_ge w (0+n) 0 (growR_ren.t 25);have s:=grownCap_le_maxLen w (0+n) 0 (growR_ren.t 25) (by unfold maxLen;omega);generalize grownCap w (0+n) 0 (growR_ren.t 25)=G at D s ⊢;have F:(mF.agg #[.int .i64 0,.int .i64 0,.int .i64 0,.int .i64 0,.int .i64 0]).cells.size=5:=by simp[mF.cells]
  refine⟨_,rfl,⟨by simp,.inr ⟨w.heap.size,G,_,rfl,Nat.le_refl _,heap_alloc_new w.drew _,Nat.zero_le _,s,?_,by simp⟩⟩,aG (BK _ w).drew _⟩;simp only[Array.size_append,rN.zeroCells,Array.size_map,Array.size_range,F];simp;omega
theorem DQ {k:Int}{n:Nat}(h:k=(n:Int))(hn:n<=2000000)(w:nU):
  oO fD 156 #[.slice none 0 0,.int .i64 k] w fun e g=>∃v:mF,e=.returned v/\aD g w.heap.size v []/\B3 w.heap.size w g:=by
 subst h;exact Il n hn w
theorem Hq (g0:Nat)(S R:mF)(g s:List Rw)(w:nU)(H:Bk w g0 #[S,R] 28)(h1:Rs w S g)(h2:Rs w R s)(hl:g.length+s.length<=2000000):
  oO fD 88 #[.slice (some ⟨g0,0,none⟩) 2 2] w fun e Z=>∃o:mF,e=.returned o/\aD Z w.heap.size o (g++s)/\B3 w.heap.size w Z:=by
 have H1:Hid (Rs w S g):=h1;have H2:Hid (Rs w R s):=h2;obtain⟨a1,y3,rfl,_,_,_,_⟩:=h1;obtain⟨a2,y2,rfl,_,_,_,_⟩:=h2;obtain⟨c0,c1,_,_⟩:=H.two;go_enter Tryz.func88,Tryz.ntmps88;generalize J:g.length=n1 at*;generalize I:s.length=n2 at*;have q1:(0:Int)<=(n1:Int):=by omega
 have q2:(n1:Int)<=2000000:=by omega
 have q3:(0:Int)<=(n1:Int)+(n2:Int):=by omega
 have q4:(n1:Int)+(n2:Int)<=2000000:=by omega
 have q5:¬((n1:Int)<0):=by omega
 have q6:¬((n1:Int)+(n2:Int)<0):=by omega
 have E1:Hid (g.length=n1):=J;have E2:Hid (s.length=n2):=I;clear J I;go_wp2_with fail;refine oJ 3 ?_;rw[mJ];go_wp2_with fail;rw[mJ];go_wp2_with fail;rw[mJ];go_wp2_with fail;refine (DQ (n:=n1+n2) (by omega) (by omega) _).mono ?_;rintro e w1 ⟨o1,rfl,G,B⟩;have O:=H.keep B;have R1:=H1.out.keep B;obtain⟨d0,d1,_,_⟩:=O.two;have y8:=B.size;have U:Hid (aD w1 w.heap.size o1 []):=G;clear G H1 c0 c1;go_wp2_with fail;refine oJ 3 ?_;rw[mJ]
 go_wp2_with (at_builtin;refine kZ _ rfl _ _ rfl w.heap.size _ [] rfl U.out _ g rfl R1 (by have:=E1.out;simp;omega) (by omega) ?_;intro v3 Y F N)
 have A:B3 w.heap.size w Y:=Below.aO B N (by omega) (oB U.out);have y7:=A.size;have R2:=H2.out.keep A;have T:Hid (aD Y w.heap.size v3 g):=by show aD _ _ _ _;simpa using F
 obtain⟨f0,f1,_,_⟩:=(H.keep A).two;clear F N O d0 d1 R1 U B H2 H;rw[mJ]
 go_wp2_with (at_builtin;refine kZ _ rfl _ _ rfl w.heap.size _ g rfl T.out _ s rfl R2 (by have:=E1.out;have:=E2.out;omega) (by omega) ?_;intro v5 V D M)
 have h9:B3 w.heap.size w V:=Below.aO A M (by omega) (oB T.out);have O5:Hid (aD V w.heap.size v5 (g++s)):=D;clear D M f0 f1 R2 T A;rw[mJ];go_wp2_with fail
 go_returns
 exact⟨_,rfl,O5.out,h9⟩
theorem Hu {a b:List Rw}(h:aR a=false):iY a b=[]:=by simp[iY,h]
theorem Iv {a b:List Rw}(h:aR b=false):iY a b=[]:=by simp[iY,h]
theorem IH {a b:List Rw}(h:aR a=true)(g:aR b=true):iY a b=iW (a++b):=by simp[iY,h,g]
theorem IW (a b:List Rw):(iY a b).length<=400:=by
 unfold iY;split
 ·exact CR _
 ·simp
theorem A4 {a b:List Rw}(h:aR a=true)(g:aR b=true):aM (a++b)<=79999200:=by
 rw[gJ];have:=lF h;have:=lF g;omega
theorem G9 {a b:List Rw}(h:aR a=true)(g:aR b=true):∀r∈a++b,spOk r.1:=fun r hr=>by
 rcases List.mem_append.1 hr with hr|hr
 ·exact yA (eY h hr)
 ·exact yA (eY g hr)
theorem vY (v v':mF)(l l':List Rw)(w:nU)(h:Rs w v l)(Y:Rs w v' l'):
  oO fD 27 #[v,v'] w fun e w'=>∃o:mF,e=.returned o/\aD w' w.heap.size o (iY l l')/\B3 w.heap.size w w':=by
 cases B:aR l
 ·have HF:Hid (iY l l'=[]):=Hu B;go_enter jU,gZ;go_wp2_with fail;refine (iR B h).mono ?_;rintro e w1 ⟨rfl,g⟩;go_wp2_with fail;go_ret;refine⟨_,rfl,?_,g⟩;rw[HF.out];exact oN _ _ _ _ _
 cases s:aR l'
 ·have HF:Hid (iY l l'=[]):=Iv s;go_enter jU,gZ;go_wp2_with fail;refine (iR B h).mono ?_;rintro e w1 ⟨rfl,g⟩;have D:=Y.keep g;go_wp2_with fail;refine (iR s D).mono ?_;rintro e G ⟨rfl,A⟩;go_wp2_with fail;go_ret;refine⟨_,rfl,?_,aH g A⟩;rw[HF.out];exact oN _ _ _ _ _
 have HF:Hid (iY l l'=iW (l++l')):=IH B s;have ha:=A4 B s;have x0:Hid (∀r∈l++l',spOk r.1):=G9 B s;have hl:=fP B;have y1:=fP s;have Z:Hid (Rs w v l):=h;have U:Hid (Rs w v' l'):=Y;obtain⟨a1,O,rfl,-,-,-,-⟩:=h;obtain⟨a2,N,rfl,-,-,-,-⟩:=Y;go_enter jU,gZ;go_wp2_with fail;refine (iR B Z.out).mono ?_;rintro e w1 ⟨rfl,g⟩;have h1:=Z.out.keep g;have D:=U.out.keep g;clear Z U;go_wp2_with fail;refine (iR s D).mono ?_;rintro e G ⟨rfl,A⟩;have M:=aH g A;have F:B3 G.heap.size G (G.alloc (.cells #[.slice a1 l.length O,.slice a2 l'.length N] 28)):=aG (BK _ _) _;have h3:=(h1.keep A).keep F;have T:=(D.keep A).keep F;have R:=Bk.new (w:=G) #[.slice a1 l.length O,.slice a2 l'.length N] 28 rfl;have y0:=M.size;clear h1 D g A;go_wp2_with fail;refine (Hq _ _ _ l l' _ R h3 T (by omega)).mono ?_;rintro e w4 ⟨o4,rfl,I,S⟩;have J:=aH (aH M F) S;have R4:=aD.rs I (by simp;omega);have x1:=J.size;clear I S R h3 T F;go_wp2_with fail;refine (tU _ (l++l') _ R4 (by simp;omega) (by omega) x0.out).mono ?_;rintro e w5 ⟨o5,rfl,H,x2⟩;have O5:Hid (aD w5 w4.heap.size o5 (iW (l++l'))):=H;have V:=aH J x2;clear H;go_wp2_with fail;go_ret;refine⟨_,rfl,?_,V⟩;rw[HF.out];exact bQ O5.out x1
theorem Fu (a:Option sE)(n c:Nat)(w:nU):(binOp .eql 28 (.slice a n c) (.slice none 0 0)).run fD w=.ok (.bool a.isNone) w:=by
 simp[binOp,run_equal_slice_nil w 28 55 a n c fH]
theorem Ig (v:mF)(l:List Rw)(w:nU)(h:Rs w v l)(hl:l.length<=2000000):
  oO fD 153 #[v] w fun e G=>∃o:mF,e=.returned o/\aD G w.heap.size o l/\B3 w.heap.size w G:=by
 have R:Hid (Rs w v l):=h;obtain⟨a,D,rfl,-,-,-,s⟩:=h;cases a with
 | none=>
  have h0:l=[]:=by
   cases l with
   | nil=>rfl
   | cons x l=>obtain⟨g,off,e,_⟩:=s 0 x rfl;cases e
  subst h0;clear s;have hq:=Fu none 0 D;simp only[Option.isNone_none]at hq;go_enter lI,kR;go_wp2_with fail;go_ret;exact⟨_,rfl,oN _ _ _ _ _,BK _ _⟩
 | some ad=>
  clear s;have hq:=Fu (some ad) l.length D;simp only[Option.isNone_some]at hq;have J:=dW w rfl;have B:B3 w.heap.size w (w.alloc (.cells #[] 55)):=aG (BK _ _) _;have N:=R.out.keep B;go_enter lI,kR
  go_wp2_with (at_builtin;refine kZ _ rfl _ _ rfl w.heap.size _ [] rfl J _ l rfl N (by simp;omega) (by simp) ?_;intro M F A H)
  have I:B3 w.heap.size w F:=Below.aO B H (by simp) (oB J);have O:Hid (aD F w.heap.size M l):=by show aD _ _ _ _;simpa using A
  clear A;go_ret;exact⟨_,rfl,O.out,I⟩
def qF (f:Rw->Rw)(l:List Rw)(k:Nat):List Rw:=(l.take k).map f++l.drop k
theorem KD (f:Rw->Rw)(l:List Rw):qF f l 0=l:=by simp[qF]
theorem MN (f:Rw->Rw)(l:List Rw):qF f l l.length=l.map f:=by simp[qF]
theorem NB (f:Rw->Rw){l:List Rw}{x:Rw}(h:l[k]?=some x):(qF f l k)[k]?=some x:=by
 have g:=(sG.1 h).1;unfold qF;rw[List.getElem?_append_right (by simp;omega)];simp;have:min k l.length=k:=by omega
 rw[this];simpa using h
theorem MW (f:Rw->Rw){l:List Rw}{x:Rw}(h:l[k]?=some x):(qF f l k).set k (f x)=qF f l (k+1):=by
 have g:=(sG.1 h).1;unfold qF;rw[gL h,pT h,AT,List.append_assoc];rw[List.set_append_right _ _ (by simp;omega)];have:k-((l.take k).map f).length=0:=by simp;omega
 rw[this];simp
theorem j6.diff {c:Array mF}{L:List Rw}{n i:Nat}{s:Sp}{d:Int}(h:j6 fX 5 c L n)(hi:L[i]?=some (s,d))(g:i<n)(hs:i*5+4<c.size)(B:Int):
  j6 fX 5 (c.setIfInBounds (i*5+4) (.int .i64 B)) (L.set i (s,B)) n:=by
 intro j x D hx q hq;have A:=(sG.1 hi).1;rw[List.getElem?_set]at hx;rw[E0]
 by_cases e:i=j
 ·subst e;rw[if_pos rfl,if_pos A]at hx;cases hx;obtain rfl|F:q=4\/q<4:=by omega
  ·rw[if_pos rfl,if_pos hs];rfl
  ·rw[if_neg (by omega),h i _ g hi q hq];obtain rfl|rfl|rfl|rfl:q=0\/q=1\/q=2\/q=3:=by omega
   all_goals rfl
 ·rw[if_neg e]at hx;rw[if_neg (by omega)];exact h j x D hx q hq
def negR (r:Rw):Rw:=(r.1,-r.2)
theorem Kf (l:List Rw):dY l=l.map negR:=rfl
theorem Fs {l:List Rw}(h:aR l=false):dA l=[]:=by simp[dA,h]
theorem DH {l:List Rw}(h:aR l=true):dA l=iW (dY l):=by simp[dA,h]
theorem Ef (l:List Rw):(dA l).length<=400:=by
 unfold dA;split
 ·exact CR _
 ·simp
theorem Ft (l:List Rw):aM (dY l)=aM l:=by
 unfold dY
 induction l with
 | nil=>rfl
 | cons r l ih=>simp only[List.map_cons,aM,ih];omega
theorem NW {l:List Rw}(h:aR l=true):∀r∈dY l,spOk r.1:=fun r hr=>by
 obtain⟨q,hq,rfl⟩:=List.mem_map.1 hr;have:spOk q.1:=yA (eY h hq);exact this
theorem vV (v:mF)(l:List Rw)(w:nU)(h:Rs w v l):
  oO fD 84 #[v] w fun e w'=>∃o:mF,e=.returned o/\aD w' w.heap.size o (dA l)/\B3 w.heap.size w w':=by
 cases H:aR l
 ·have HF:Hid (dA l=[]):=Fs H;go_enter lY,kX;go_wp2_with fail;refine (iR H h).mono ?_;rintro e w1 ⟨rfl,I⟩;go_wp2_with fail;go_ret;refine⟨_,rfl,?_,I⟩;rw[HF.out];exact oN _ _ _ _ _
 have HF:Hid (dA l=iW (dY l)):=DH H;have ha:=lF H;have y6:=Ft l;have hl:=fP H;have Z:Hid (∀r∈dY l,spOk r.1):=NW H;have HB:Hid (∀i s d,l[i]?=some (s,d) -> -99999<=d/\d<=99999):=fun i s d hi=>lG (eY H (sI hi));have T:(dY l).length=l.length:=by simp[dY]
 go_enter lY,kX;go_wp2_with fail;refine (iR H h).mono ?_;rintro e w1 ⟨rfl,I⟩;have h1:=h.keep I;have y5:=I.size;clear h;go_wp2_with fail;refine (Ig _ l _ h1 (by omega)).mono ?_;rintro e w2 ⟨o2,rfl,G,h9⟩;have V:=aH I h9;have y4:=h9.size;clear h1
 rcases gE G jD with⟨rfl,rfl⟩|⟨g,S,c,rfl,hg,B,F,x7,hm,A⟩
 ·have R2:Rs w2 (.slice none 0 0) []:=aD.rs G (by simp);clear G;go_wp2_with fail;refine oJ 1 ?_;rw[mJ];go_wp2_with fail;refine (tU _ (dY []) _ R2 (by simp[dY]) (by simp[dY,aM]) Z.out).mono ?_;rintro e w3 ⟨o3,rfl,D,R⟩;have O3:Hid (aD w3 w2.heap.size o3 (iW (dY []))):=D;clear D;go_wp2_with fail;go_ret;refine⟨_,rfl,?_,aH V R⟩;rw[HF.out];exact bQ O3.out (by omega)
 ·clear G;unfold maxLen at hm;have N:Hid (c.size=S*5):=F;have M:Hid (j6 fX 5 c l l.length):=A;clear F A;go_wp2_with fail
  go_loopw [12] (fun i wr=>∃(k:Nat)(J:Array mF),k<=l.length/\i=.int .i64 k/\Bk wr g J 55/\J.size=S*5/\j6 fX 5 J (qF negR l k) l.length/\Bx g w2 wr) (fun i _=>l.length-(intOf i).toNat)
  case atStart=>exact⟨0,c,by omega,rfl,B,N.out,by rw[KD];exact M.out,Bx.refl _ _⟩
  case round=>
   clear B N M;obtain⟨k,J,y7,rfl,B,F,A,hx⟩:=hrel;have N:Hid (J.size=S*5):=F;have M:Hid (j6 fX 5 J (qF negR l k) l.length):=A
   by_cases U:k<l.length
   ·obtain⟨⟨s,d⟩,hr⟩:∃r,l[k]?=some r:=⟨_,sH U⟩;obtain⟨y9,y8⟩:=HB.out k s d hr;have Y:=NB negR hr;have O:J[k*5+4]?=some (.int .i64 d):=A k (s,d) U Y 4 (by omega);have d4:=B.cell O;have f4:=B.free (k*5+4);have HN:Hid (j6 fX 5 (J.setIfInBounds (k*5+4) (.int .i64 (-d))) (qF negR l (k+1)) l.length):=by
     have h1:=j6.diff A Y U (by omega) (-d);rw[<- MW negR hr];exact h1
    have x9:=B.set (k*5+4) (.int .i64 (-d));have x5:=hx.ae (p:=⟨g,k*5+4,none⟩) rfl (.int .i64 (-d));clear F A hr Y O;have ik:((k:Int)<(l.length:Int)):=by omega
    go_wp2_with fail;go_roundw
    case rel=>exact⟨k+1,_,by omega,by go_num,x9,by simpa using N.out,HN.out,x5⟩
    case measure=>simp[intOf];omega
   ·obtain rfl:k=l.length:=by omega
    have R3:Rs wr (.slice (some ⟨g,0,none⟩) l.length S) (dY l):=by
     have h1:=M.out;rw[MN,<-Kf]at h1;have:=tY.cY (l:=dY l) B (by rw[T];exact h1) jD (by rw[T];exact x7) (by unfold maxLen;exact hm) (by omega)
     rwa [T]at this
    have R:B3 w.heap.size w wr:=hx.below V (by omega) (by omega);have x6:=R.size;clear F A N M B hx;go_wp2_with fail;refine (tU _ (dY l) _ R3 (by omega) (by omega) Z.out).mono ?_;rintro e w3 ⟨o3,rfl,D,x8⟩;have O3:Hid (aD w3 wr.heap.size o3 (iW (dY l))):=D;clear D;go_wp2_with fail;go_ret;refine⟨_,rfl,?_,aH R x8⟩;rw[HF.out];exact bQ O3.out x6
theorem KY {l:List Rw}{s:Sp}{d:Int}(h:l[k]?=some (s,d)):dY (l.take (k+1))=dY (l.take k)++[(s,-d)]:=by
 unfold dY;rw[gL h,AT];rfl
theorem L5:iW []=[]:=by unfold iW aP iD;exact NO yP
theorem mU (v:mF)(l:List Rw)(w:nU)(h:Rs w v l):
  oO fD 78 #[v] w fun e Y=>∃o:mF,e=.returned o/\aD Y w.heap.size o (dA l)/\B3 w.heap.size w Y:=by
 have o0:=dW w rfl;have S:=aG (BK w.heap.size w) (.cells #[] 55)
 -- what follows the loop
 have fin:∀(W:nU)(o:mF)(L:List Rw),aD W w.heap.size o L->L.length<=400->aM L<=99999*400->B3 w.heap.size w W ->
   oO fD 77 #[o] W fun e Y=>∃o':mF,e=.returned o'/\aD Y w.heap.size o' (aP aQ L)/\B3 w.heap.size w Y:=fun W o L hO hL hA hB=>by
  refine (k9 o L W (aD.rs hO (by omega)) (by omega) (by omega)).mono ?_;rintro e Y ⟨o',he,h1,h2⟩;exact⟨o',he,bQ h1 hB.size,aH hB h2⟩
 have y1:Hid _:=fin;clear fin;cases U:aR l
 ·have HF:Hid (dA l=[]):=Fs U;have HS:Hid (jQ (aP aQ [])=[]):=L5;obtain⟨a,y7,hv,_,_,_,_⟩:=Rs.open h;have HV:Hid _:=hv
  by_cases hz:l.length=0
  ·subst hv;generalize l.length=n at*;subst hz;go_enter iC,gY;go_wp2_with fail;refine oJ 1 ?_;rw[mJ];go_wp2_with fail;refine (y1.out _ _ [] o0 (by simp) (by simp[aM]) S).mono ?_;rintro e Z ⟨o2,rfl,G,H⟩;have N:=H.size;have O2:Hid (aD Z w.heap.size o2 (aP aQ [])):=G;clear G;go_wp2_with fail;refine (tG O2.out (by simp[aP,iD]) N).mono ?_;rintro e T ⟨o3,rfl,F,J⟩;have O3:Hid (aD T w.heap.size o3 (jQ (aP aQ []))):=F;clear F;go_wp2_with fail;go_ret;refine⟨_,rfl,?_,aH H J⟩;rw[HF.out,<-HS.out];exact O3.out
  ·have h1:=h.keep S;have z6:decide ((0:Int)<(l.length:Int))=true:=by simp;omega
   subst hv;have HH:Hid (Rs (w.alloc (.cells #[] 55)) (.slice a l.length y7) l):=h1;generalize hn:l.length=n at*;go_enter iC,gY;go_wp2_with fail;refine oJ 1 ?_;rw[mJ];go_wp2_with fail;refine (sR U HH.out).mono ?_;rintro e w1 ⟨rfl,M⟩;have I:=aH S M;have o1:=bJ o0 M;go_wp2_with fail;refine (y1.out _ _ [] o1 (by simp) (by simp[aM]) I).mono ?_;rintro e Z ⟨o2,rfl,G,H⟩;have N:=H.size;have O2:Hid (aD Z w.heap.size o2 (aP aQ [])):=G;clear G;go_wp2_with fail;refine (tG O2.out (by simp[aP,iD]) N).mono ?_;rintro e T ⟨o3,rfl,F,J⟩;have O3:Hid (aD T w.heap.size o3 (jQ (aP aQ []))):=F;clear F;go_wp2_with fail;go_ret;refine⟨_,rfl,?_,aH H J⟩;rw[HF.out,<-HS.out];exact O3.out
 have HF:Hid (dA l=jQ (aP aQ (dY l))):=DH U;have ha:=lF U;have v5:=Ft l;have hl:=fP U;have v2:=i6 aQ (dY l);have v4:(dY l).length=l.length:=by simp[dY]
 have HB:Hid (∀i s d,l[i]?=some (s,d) -> -99999<=d/\d<=99999):=fun i s d hi=>lG (eY U (sI hi));have HH:Hid (Rs w v l):=h;obtain⟨a,y7,rfl,hc,hm,hn,O⟩:=Rs.open h;unfold maxLen at hm;have HC:=(show Hid _ from O);clear O h;go_enter iC,gY;go_wp2_with fail
 go_loopw [3,4] (fun o i wr=>∃k:Nat,k<=l.length/\i=.int .i64 k/\aD wr w.heap.size o (dY (l.take k))/\B3 w.heap.size w wr) (fun _ i _=>l.length-(intOf i).toNat)
 case atStart=>exact⟨0,by omega,rfl,o0,S⟩
 case round=>
  clear o0 S;obtain⟨k,v7,rfl,x6,hb⟩:=hrel;have HO:Hid (aD wr w.heap.size u3 (dY (l.take k))):=x6;clear x6
  by_cases z0:k<l.length
  ·obtain⟨g,off,K,V,A,B,D,rfl,hg,hr,c0,c1,c2,c3,c4⟩:=HC.out k z0;obtain⟨v9,v8⟩:=HB.out _ _ _ hr;have HZ:=(show Hid _ from KY hr);have HX:Hid (∀W,B3 w.heap.size w W->W.cell? ⟨g,off+k*5,none⟩=some (.int .i64 K)/\W.cell? ⟨g,off+k*5+1,none⟩=some (.int .i64 V)/\W.cell? ⟨g,off+k*5+2,none⟩=some (.int .i64 A)/\W.cell? ⟨g,off+k*5+3,none⟩=some (.int .i64 B)/\W.cell? ⟨g,off+k*5+4,none⟩=some (.int .i64 D)):=
    fun W hW=>⟨cB hW c0,cB hW c1,cB hW c2,cB hW c3,cB hW c4⟩
   have hL:(dY (l.take k)).length<=400:=by simp[dY];omega
   have R:=HH.out.keep hb;have ik:decide ((k:Int)<(l.length:Int))=true:=by simp;omega
   clear c0 c1 c2 c3 c4 hr;go_wp2_with fail;refine (sR U R).mono ?_;rintro e w1 ⟨rfl,M⟩;have I:=aH hb M;obtain⟨x0,x1,x2,x3,x4⟩:=HX.out w1 I;have O1:aD w1 w.heap.size u3 (dY (l.take k)):=bJ HO.out M;have v3:=I.size;clear HO R hb M;generalize dY (l.take k)=L at*
   go_wp2_with (at_builtin;refine jZ _ rfl _ _ rfl w.heap.size _ _ rfl ((O1.alloc _).alloc _) _ _ _ _ _ _ rfl (Bk.new _ _ (by simp)) (by omega) (by simp;omega) ?_;intro g3 u0 T F y4 v6)
   have J:B3 w.heap.size w T:=Below.aO (aG (aG I _) _) y4 (by simp;omega) (oB O1);go_roundw
   case rel=>
    refine⟨k+1,by omega,by go_num,?_,J⟩;rw[HZ.out];exact F
   case measure=>simp[intOf];omega
  ·obtain rfl:k=l.length:=by omega
   have O1:Hid (aD wr w.heap.size u3 (dY l)):=by have:=HO.out;rw[wR]at this;exact this
   clear HO;go_wp2_with fail;refine (y1.out _ _ (dY l) O1.out (by omega) (by omega) hb).mono ?_;rintro e Z ⟨o2,rfl,G,H⟩;have N:=H.size;have O2:Hid (aD Z w.heap.size o2 (aP aQ (dY l))):=G;clear G O1;go_wp2_with fail;refine (tG O2.out (by omega) N).mono ?_;rintro e T ⟨o3,rfl,F,J⟩;have O3:Hid (aD T w.heap.size o3 (jQ (aP aQ (dY l)))):=F;clear F;go_wp2_with fail;go_ret;refine⟨_,rfl,?_,aH H J⟩;rw[HF.out];exact O3.out
theorem pE {l:LI}{r:Bool}(h:cC l=r)(s:Ts w v l):oO fD 80 #[v] w fun e g=>e=.returned (.bool r)/\B3 w.heap.size w g:=by
 rw[<- h];exact oC v l w s
end Go.Proofs.YtbdpcngcbnoioaaGreatDoor
