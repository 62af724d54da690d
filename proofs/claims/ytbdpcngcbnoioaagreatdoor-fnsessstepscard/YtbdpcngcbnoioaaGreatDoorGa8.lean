import Derived.Lib.SliceRun
import Derived.Test.YtbdpcngcbnoioaaGreatDoorGb3
set_option maxRecDepth 100000
set_option maxHeartbeats 8000000
namespace Go.Proofs.YtbdpcngcbnoioaaGreatDoor
open Go.RowKit
open Go.Proofs.Tryz renaming prog->fD,underlying27->fH,ntmps163->fV,func163->gY
open Go renaming Value->gZ,World->iC,Calls->jU,Builtin->kR,wpQuiet_nil->kX,wpList_append_lies->lI,lt_of_block->lY
open _root_.List renaming length_filter_le->mF,getElem?_take->mJ,length_take->nU,getD_eq_getElem?_getD->oJ,getElem?_eq_getElem->oO,getElem_of_mem->qA,filter_eq_self->rN,take_add_one->sE,getElem?_set->sG,append_nil->sH
open Go.RowKit.Below renaming refl->sI,setCell->wH,drew->wR
open Go.RowKit renaming Below->AT
open _root_.Array renaming getElem?_setIfInBounds->B3,getElem?_eq_getElem->BK,getElem?_toList->E0
open Go.Builtin renaming zeroCells->EJ,clear_->Ga
open _root_.Nat renaming le_refl->Lx,mod_two_eq_zero_or_one->Md,add_zero->Nh
open _root_.Option renaming none->Ov
variable {B g i j k n:Nat}{L l:LI}{a b c d x y:Int}{r:Bool}{v:gZ}{w:iC}
theorem He (l:LI):(cK l).length<=64:=by
 unfold cK;split
 ·exact D8 l 64
 ·simp
theorem xB {p:Int}(h:Rd B w g v n p)(hp:0<=p)(N:p<=800000):
  jU fD 149 #[.pointer (some ⟨g,0,none⟩)] w fun e G=>∃(o:gZ)(f:LI),e=.returned o/\f.length<=64/\aW G w.heap.size o f/\(∃H:Int,p<=H/\H<=p+400/\Rd B G g v n H)/\Bx g w G:=by
 go_enter Tryz.func149,Tryz.ntmps149;go_wp2_with fail;refine (E9 h hp N _ (by omega) (by omega)).mono ?_;rintro e w1 ⟨o,l,rfl,hl,A,⟨Q,M,J,I⟩,D⟩;have ts:=A.ts (by omega);clear A;go_wp2_with fail;refine (tF o l w1 ts).mono ?_;rintro e S ⟨R,rfl,s,F⟩;have O:=He l;have hs:=D.size;have ho:=bQ s hs;clear s;go_wp2_with fail;go_ret;exact⟨R,cK l,rfl,O,ho,⟨Q,M,J,I.aX F⟩,D.trans (Bx.aA F)⟩
theorem FS {p:Int}(h:Rd B w g v n p)(hp:0<=p)(x4:p<=800000):
  jU fD 93 #[.pointer (some ⟨g,0,none⟩)] w fun e O=>∃(o:gZ)(f:LI),e=.returned o/\f.length<=65/\aW O w.heap.size o f/\(∃Q:Int,p<=Q/\Q<=p+410/\Rd B O g v n Q)/\Bx g w O:=by
 obtain⟨i0,hi,Y,W,V⟩:=info_parts mW;have hg:=h.blk.lt;go_enter Tryz.func93,Tryz.ntmps93;go_wp2_with fail;refine (xB h hp x4).mono ?_;rintro e w1 ⟨o,f,rfl,hl,s,⟨p1,y3,y2,x1⟩,J⟩;have HO:=(show Hid _ from s);clear s;go_wp2_with fail;refine (pA x1 (by omega) (by omega) _ (by omega) (by omega)).mono ?_;rintro e w2 ⟨k,rfl,y7,y6,M,D⟩;have N:=(show Hid _ from oX HO.out D hg);have S:=J.trans D;clear HO J D
 by_cases hk:k=0
 ·subst hk;go_wp2_with fail;refine (Aa M (by omega) (by omega)).mono ?_;rintro e T ⟨a,b,rfl,z2,z1,y9,y8,⟨U,y1,y0,x0⟩,I⟩;have s:=oX N.out I hg;have R:=S.trans I;have x9:=R.size
  go_wp2_with (at_builtin;refine lI _ rfl _ _ 27 rfl w.heap.size 32 i0 (.agg #[.int .i64 0,.int .i64 0]) 2 16 fH hi Y W V rfl (by decide) _ _ _ rfl (s.alloc _) ⟨T.heap.size,0,none⟩ 1 1 [.int .i64 a,.int .i64 b] rfl rfl (vS _ _ _ _) (mV _ _) (by omega) (by unfold maxLen;omega) (by omega) (by simp;omega) (T.heap.size+1) (by simp) ?_;intro g3 x6 F H A z0 y4)
  have G:aW F w.heap.size (.slice (some ⟨g3,0,none⟩) (f.length+1) x6) (f++[(a,b)]):=by
   show F.ownsRow _ _ _ _ _ _
   rw[iM];simpa using H
  have h9:Rd B F g v n U:=(x0.aX (aG (sI _ _) _)).grown A (fun k e=>by have:=i7 s k e;omega);have Z:Bx g w F:=(R.alloc _).grown A (i7 s);go_ret;exact⟨_,f++[(a,b)],rfl,by simp;omega,G,⟨U,by omega,by omega,h9⟩,Z⟩
 ·have y5:(k==0)=false:=by simpa using hk
  go_wp2_with fail;go_ret;exact⟨_,f,rfl,by omega,N.out,⟨_,by omega,by omega,M⟩,S⟩
theorem lT {e f:Int}(h:cV a b c d=true)(s:cV c d e f=true):cV a b e f=true:=by
 simp[cV]at *;exact⟨⟨⟨h.1.1.1,s.1.1.2⟩,by omega⟩,by omega⟩
theorem DK (a b:Int):cV a b a b=bH a b:=by simp[cV]
theorem IT (h:dU l x y=true):∃k,k<l.length/\cV (tA l k) (tB l k) x y=true:=by
 unfold dU at h;rw[List.any_eq_true]at h;obtain⟨k,s,h⟩:=h;exact⟨k,by simpa using s,h⟩
theorem I4 {X Y:Int}(h:dU l x y=true)(A:cV x y X Y=true):dU l X Y=true:=by
 obtain⟨k,s,h⟩:=IT h;exact uR s (lT h A)
theorem JJ (h:cC l=true)(s:k<l.length):bH (tA l k) (tB l k)=true:=by
 have:=DO h s;simp[eW]at this;exact this.1
theorem Cn (h:(cC l&&dU l x y)=r)(A:Ts w v l):jU fD 29 #[v,tv x y] w fun e s=>e=.returned (.bool r)/\AT w.heap.size w s:=by
 rw[<- h];exact BI v l x y w A
theorem Ct (h:(cC l&&dU l x y)=r)(A:Ts w v l):jU fD 62 #[v,tv x y] w fun e s=>e=.returned (.bool r)/\AT w.heap.size w s:=by
 rw[<- h];exact Bc v l x y w A
theorem sQ (h:cC l=r)(A:Ts w v l):jU fD 68 #[v] w fun e s=>e=.returned (.bool r)/\AT w.heap.size w s:=by
 rw[<- h];exact tI v l w A
theorem eL :bH a b=true↔0<=a/\a<=7/\0<=b/\b<=7:=by simp[bH]
theorem fR :cV a b c d=true↔bH a b=true/\bH c d=true/\a<=c/\b<=d:=by simp[cV,and_assoc]
theorem Cy (h:bH a b=true)(s:bH c d=true):iE a b c d=max a c/\iF a b c d=max b d:=by simp[iE,iF,h,s]
theorem yM (h:bH a b=true)(s:bH c d=true):bH (iE a b c d) (iF a b c d)=true:=by
 obtain⟨D,A⟩:=Cy h s;rw[D,A,eL];rw[eL]at h s;omega
theorem N2 (h:bH a b=true)(s:bH c d=true):cV a b (iE a b c d) (iF a b c d)=true:=by
 rw[fR];refine⟨h,yM h s,?_⟩;obtain⟨D,A⟩:=Cy h s;rw[D,A];omega
theorem LE (h:bH a b=true)(s:bH c d=true):cV c d (iE a b c d) (iF a b c d)=true:=by
 rw[fR];refine⟨s,yM h s,?_⟩;obtain⟨D,A⟩:=Cy h s;rw[D,A];omega
theorem K7 (h1:cV a b x y=true)(h2:cV c d x y=true):cV (iE a b c d) (iF a b c d) x y=true:=by
 rw[fR]at h1 h2 ⊢;refine⟨yM h1.1 h2.1,h1.2.1,?_⟩;obtain⟨A,s⟩:=Cy h1.1 h2.1;rw[A,s];omega
theorem KO (h:cV a b c d=true)(s:cV c d a b=true):a=c/\b=d:=by
 rw[fR]at h s;omega
theorem JI (hl:l.length=0)(X Y:Int):dU l X Y=false:=xX fun j s=>by omega
theorem Je (a b x y:Int)(D A:Nat)(w:iC)(hf:Fk w D)(hx:Bk w A #[.int .i64 x,.int .i64 y] 32):
  jU fD 164 #[tv a b,.pointer (some ⟨D,0,none⟩),.pointer (some ⟨A,0,none⟩)] w fun e s=>e=.returned (.bool (cV x y a b))/\AT w.heap.size w s:=by
 have M:=hf.cell;obtain⟨G,F,_,_⟩:=hx.two;have I:=lY hf;have H:=hx.lt;go_enter Tryz.func164,Tryz.ntmps164
 go_wp2_with (go_at_call 90;refine (rR _ _ _ _ _).mono ?_;rintro e s ⟨rfl,J⟩)
 go_ret;refine⟨rfl,?_⟩
 repeat' (first|(with_reducible exact sI _ _)|(with_reducible assumption)|(with_reducible refine aH ?_ (by with_reducible assumption))|(with_reducible refine aG ?_ _)|(with_reducible refine wR ?_)|(with_reducible refine dC ?_ _)|(with_reducible refine wH ?_ ?_ _)|(simp;done)|(simp;omega)|omega)
theorem vN (h:cV x y a b=r){A s:Nat}(hf:Fk w A)(hx:Bk w s #[.int .i64 x,.int .i64 y] 32):
  jU fD 164 #[tv a b,.pointer (some ⟨A,0,none⟩),.pointer (some ⟨s,0,none⟩)] w fun e D=>e=.returned (.bool r)/\AT w.heap.size w D:=by
 rw[<- h];exact Je a b x y A s w hf hx
theorem B5 (v:gZ)(l:LI)(x y:Int)(T S:Nat)(w:iC)(h:Ts w v l)(hf:Fk w T)(hx:Bk w S #[.int .i64 x,.int .i64 y] 32):
  jU fD 204 #[v,.func (.func 164) #[] #[.pointer (some ⟨T,0,none⟩),.pointer (some ⟨S,0,none⟩)]] w fun e W=>∃r:Int,e=.returned (.int .i64 r)/\Fa (fun i=>cV x y (tA l i) (tB l i)) l.length r/\AT w.heap.size w W:=by
 obtain⟨a,x0,rfl,hc,hm,hn,s⟩:=h;unfold maxLen at hm;have HC:=(show Hid _ from s);clear s;go_enter Tryz.func204,Tryz.ntmps204;go_wp2_with fail
 go_loopw [8] (fun i wr=>∃k:Nat,k<=l.length/\i=.int .i64 k/\(∀j,j<k->cV x y (tA l j) (tB l j)=false)/\AT w.heap.size w wr) (fun i _=>l.length-(intOf i).toNat)
 case atStart=>exact⟨0,by omega,rfl,fun j Z=>by omega,sI _ _⟩
 case round=>
  obtain⟨k,hk,rfl,G,A⟩:=hrel;have N:=(show Hid _ from G);clear G
  by_cases I:k<l.length
  ·obtain⟨g,off,rfl,hg,R,c1⟩:=HC.out k I;have d0:=cB A R;have d1:=cB A c1;clear R c1;generalize Q:tA l k=X at*;generalize O:tB l k=Y at*;have V:Hid (tA l k=X):=Q;have U:Hid (tB l k=Y):=O;clear Q O;have J:=hf.keep A;have H:=hx.keep A;cases hp:cV x y X Y
   ·have M:Hid (cV x y (tA l k) (tB l k)=false):=by show _=false;rw[V.out,U.out];exact hp
    go_wp2_with fail;refine (vN hp J H).mono ?_;rintro e w1 ⟨rfl,F⟩;have D:=aH A F;go_wp2_with fail;go_roundw
    case rel=>
     refine⟨k+1,by omega,by go_num,fun j Z=>?_,D⟩
     by_cases e:j=k
     ·subst e;exact M.out
     ·exact N.out j (by omega)
    case measure=>simp[intOf];omega
   ·have M:Hid (cV x y (tA l k) (tB l k)=true):=by show _=true;rw[V.out,U.out];exact hp
    go_wp2_with fail;refine (vN hp J H).mono ?_;rintro e w1 ⟨rfl,F⟩;have D:=aH A F;go_wp2_with fail;go_ret;exact⟨_,rfl,.inr ⟨k,rfl,I,M.out,N.out⟩,D⟩
  ·go_wp2_with fail;go_ret;exact⟨_,rfl,.inl ⟨rfl,fun i hi=>N.out i (by omega)⟩,A⟩
theorem E8 {c:Array gZ}{F:LI}(h:dX c F F.length):c.toList.take (F.length*2)=jG F:=by
 apply List.ext_getElem?
 intro i
 by_cases hi:i<F.length*2
 ·rw[mJ,if_pos hi,E0]
  rcases Md i with e|e
  ·obtain⟨q,rfl⟩:∃q,i=q*2:=⟨i / 2,by omega⟩;rw[(h q (by omega)).1,(oF F q (by omega)).1]
  ·obtain⟨q,rfl⟩:∃q,i=q*2+1:=⟨i / 2,by omega⟩;rw[(h q (by omega)).2,(oF F q (by omega)).2]
 ·rw[mJ,if_neg hi,List.getElem?_eq_none (by rw[vW];omega)]
theorem tX {s:Nat}{c:Array gZ}{F:LI}(h:Bk w g c 32)(hf:dX c F F.length)(hs:c.size=s*2)(A:F.length<=s)(hm:s<=maxLen)(hg:B<=g):
  aW w B (.slice (some ⟨g,0,none⟩) F.length s) F:=
 ⟨vW F,.inr ⟨g,s,c,rfl,hg,h,A,hm,hs,E8 hf⟩⟩
theorem kE (h:aW w B v l):(v=.slice none 0 0/\l=[]) \/
  ∃g s c,v=.slice (some ⟨g,0,none⟩) l.length s/\B<=g/\Bk w g c 32/\c.size=s*2/\l.length<=s/\s<=maxLen/\dX c l l.length:=by
 obtain⟨h1,⟨rfl,h2⟩|⟨g,s,cur,rfl,hg,F,G,hm,hs,A⟩⟩:=h
 ·exact .inl ⟨rfl,List.eq_nil_of_length_eq_zero h2⟩
 ·refine .inr ⟨g,s,cur,rfl,hg,F,hs,G,hm,fun i hi=>?_⟩;have e:∀j,j<l.length*2->cur[j]?=(jG l)[j]?:=by
   intro j D;rw[<- A,mJ,if_pos D,E0]
  rw[e _ (by omega),e _ (by omega)];exact oF l i hi
theorem Bk.setCells {t:TypeId}(vs:List gZ):∀{w:iC}{c:Array gZ}(o:Nat),Bk w g c t->∃c':Array gZ,Bk (w.setCells g o vs) g c' t/\c'.size=c.size/\(∀i,i<o->c'[i]?=c[i]?)/\Bx g w (w.setCells g o vs):=by
 induction vs with
 | nil=>exact fun o h=>⟨_,h,rfl,fun _ _=>rfl,Bx.refl _ _⟩
 | cons v r ih=>
  intro w c o h;obtain⟨c',h1,h2,h3,h4⟩:=ih (o+1) (h.set o v);refine⟨c',h1,by rw[h2];simp,fun i hi=>?_,(Bx.ae (Bx.refl g w) rfl v).trans h4⟩;rw[h3 i (by omega),B3,if_neg (by omega)]
theorem Eo {F:Nat}{c:Array gZ}(h:Bk w g c 32)(hs:c.size=F*2)(hi:i<n)(hn:n<=F)(M:Nat):
  ∃G c',(∀I,(Ga #[27] I #[.slice (some ⟨g,i*2,none⟩) (n-i) M]).run fD w=.ok (.tuple #[]) G)/\Bk G g c' 32/\c'.size=c.size/\(∀j,j<i*2->c'[j]?=c[j]?)/\Bx g w G:=by
 have s:∀w,(zeroValue 32).run fD w=.ok (.agg #[.int .i64 0,.int .i64 0]) w:=fun w=>Tryz.zeroValue32 w;have D:(gZ.agg #[.int .i64 0,.int .i64 0]).cells=#[.int .i64 0,.int .i64 0]:=by simp[gZ.cells]
 obtain⟨c',h1,h2,h3,h4⟩:=h.setCells (EJ (gZ.agg #[.int .i64 0,.int .i64 0]).cells (n-i)).toList (i*2);refine⟨_,c',fun I=>?_,h1,h2,h3,h4⟩;have H:(EJ (gZ.agg #[.int .i64 0,.int .i64 0]).cells (n-i)).toList.length=(n-i)*2:=by simp[EJ,D]
 have A:=run_storeCells_cells (P:=fD) g (i*2) (EJ (gZ.agg #[.int .i64 0,.int .i64 0]).cells (n-i)).toList 0 w
  (fun j J=>by rw[H]at J;rw[Nh,h.cell (BK (show i*2+j<c.size by omega))];rfl) (fun j _=>h.free _)
  (fun v s=>by
   rw[D]at s;simp[EJ]at s;obtain⟨a,_,rfl⟩:=s
   rcases Md a with e|e<;>simp[e]<;>rfl)
 simp only[Nh]at A;obtain⟨m,hm⟩:∃m,n-i=m+1:=⟨n-i-1,by omega⟩;rw[hm]at A ⊢;simp[Ga,run_underlying fH,s,A]
theorem Gt (g i n s:Nat)(hi:i<n)(hn:n<=s)(u:iC):(Instr.slice 27 (.slice (some ⟨g,0,none⟩) n s) (some (.int .i64 i)) Ov Ov).run fD u=.ok (.slice (some ⟨g,i*2,none⟩) (n-i) (s-i)) u:=by
 have A:fD.underlying 27=some (.slice (fD.elem 27)):=by kernel_rfl
 have hs:∀u:iC,(sizeOf (fD.elem 27)).run fD u=.ok 2 u:=fun u=>by kernel_rfl
 rw[run_slice_l (P:=fD) u 27 _ _ _ A .i64 i (by omega) (by omega),hs u];have hne:¬s=i:=by omega
 simp[Result.andThen,sliced,Addr.add,hne];omega
theorem Hl (g i n s:Nat)(hi:i<=n)(hn:n<=s)(u:iC):(Instr.slice 27 (.slice (some ⟨g,0,none⟩) n s) Ov (some (.int .i64 i)) Ov).run fD u=.ok (.slice (some ⟨g,0,none⟩) i s) u:=by
 have A:fD.underlying 27=some (.slice (fD.elem 27)):=by kernel_rfl
 have hs:∀u:iC,(sizeOf (fD.elem 27)).run fD u=.ok 2 u:=fun u=>by kernel_rfl
 rw[run_slice_h (P:=fD) u 27 _ _ _ A .i64 i (by omega) (by omega),hs u];simp[Result.andThen,sliced,Addr.add]
def fG (x y:Int)(p:Int×Int):Bool:=!cV x y p.1 p.2
theorem Dl (s:j<l.length):fG x y l[j]=!cV x y (tA l j) (tB l j):=by
 simp[fG,tA,tB,s]
structure lP (l:LI)(x y:Int)(i j:Nat)(c:Array gZ):Prop where
 lt:i<j
 le:j<=l.length
 len:((l.take j).filter (fG x y)).length=i
 low:dX c ((l.take j).filter (fG x y)) i
 high:∀m,j<=m->m<l.length->c[m*2]?=some (.int .i64 (tA l m))/\c[m*2+1]?=some (.int .i64 (tB l m))
theorem tW (l:LI)(x y:Int)(s:j<l.length):(l.take (j+1)).filter (fG x y)=(l.take j).filter (fG x y)++(if cV x y (tA l j) (tB l j) then [] else [(tA l j,tB l j)]):=by
 have e:l[j]=(tA l j,tB l j):=by simp[tA,tB,s]
 rw[sE,oO s,List.filter_append]
 congr 1
 have:=Dl (x:=x) (y:=y) s;cases h:cV x y (tA l j) (tB l j)<;>rw[h]at this<;>simp[this];exact e
theorem lP.start {c:Array gZ}(D:k<l.length)(s:cV x y (tA l k) (tB l k)=true)(A:∀i,i<k->cV x y (tA l i) (tB l i)=false)(hf:dX c l l.length):lP l x y k (k+1) c:=by
 have e:(l.take (k+1)).filter (fG x y)=l.take k:=by
  rw[tW l x y D,s,if_pos rfl,sH,rN];intro a ha;obtain⟨i,hi,rfl⟩:=qA ha;rw[nU]at hi;rw[List.getElem_take,Dl (by omega),A i (by omega)];rfl
 refine⟨by omega,D,by rw[e,nU];omega,fun i hi=>?_,fun m _ hm=>hf m hm⟩;have F:∀i,i<k->tA (l.take k) i=tA l i/\tB (l.take k) i=tB l i:=by
  intro i hi;have:i<(l.take k).length:=by rw[nU];omega
  simp[tA,tB,hi]
 rw[e,(F i hi).1,(F i hi).2];exact hf i (by omega)
theorem lP.skip {c:Array gZ}(h:lP l x y i j c)(s:j<l.length)(A:cV x y (tA l j) (tB l j)=true):lP l x y i (j+1) c:=by
 have e:(l.take (j+1)).filter (fG x y)=(l.take j).filter (fG x y):=by rw[tW l x y s,A,if_pos rfl,sH]
 exact⟨by have:=h.lt;omega,s,by rw[e];exact h.len,by rw[e];exact h.low,fun m h1 h2=>h.high m (by omega) h2⟩
theorem lP.keep {c:Array gZ}(h:lP l x y i j c)(D:j<l.length)(hs:l.length*2<=c.size)(M:cV x y (tA l j) (tB l j)=false):
  lP l x y (i+1) (j+1) ((c.setIfInBounds (i*2) (.int .i64 (tA l j))).setIfInBounds (i*2+1) (.int .i64 (tB l j))):=by
 have N:=h.lt;have s:=h.len;have e:(l.take (j+1)).filter (fG x y)=(l.take j).filter (fG x y)++[(tA l j,tB l j)]:=by rw[tW l x y D,M];rfl
 have A:=h.low;have h0:dX c ((l.take (j+1)).filter (fG x y)) i:=by
  intro q hq;have:=A q hq;rw[e];have H:tA ((l.take j).filter (fG x y)++[(tA l j,tB l j)]) q=tA ((l.take j).filter (fG x y)) q/\tB ((l.take j).filter (fG x y)++[(tA l j,tB l j)]) q=tB ((l.take j).filter (fG x y)) q:=by
   generalize (l.take j).filter (fG x y)=F at*;have:q<F.length:=by omega
   simp[tA,tB,List.getElem?_append,this]
  rw[H.1,H.2];exact this
 have h1:=h0.step (k:=i) (by omega);have G:tA ((l.take (j+1)).filter (fG x y)) i=tA l j/\tB ((l.take (j+1)).filter (fG x y)) i=tB l j:=by
  rw[e];generalize (l.take j).filter (fG x y)=F at*;generalize tA l j=X;generalize tB l j=Y;subst s;simp[tA,tB]
 rw[G.1,G.2]at h1;refine⟨by omega,D,by rw[e,List.length_append];simp[s],h1,fun m a b=>?_⟩;have n1:¬i*2+1=m*2:=by omega
 have n2:¬i*2=m*2:=by omega
 have J:¬i*2+1=m*2+1:=by omega
 have I:¬i*2=m*2+1:=by omega
 simp only[B3,n1,n2,J,I,if_false];exact h.high m (by omega) b
theorem uF {c:Array gZ}{t:TypeId}(h:Bk w g c t)(hi:i<c.size):∃y,w.cell? ⟨g,i,none⟩=some y:=⟨_,h.cell (BK hi)⟩
theorem Fk.aN {w1:iC}(h:Fk w k)(A:Bx g w w1)(s:k≠g):Fk w1 k:=by
 unfold Fk;rw[A.block k (lY h) s];exact h
theorem F9 (g A:Nat)(c:Array gZ)(l:LI)(x y:Int)(bn Z:Nat)(w:iC)(h:Bk w g c 32)(hs:c.size=A*2)(W:l.length<=A)(hm:A<=maxLen)(hn:l.length<=2097152)(D:dX c l l.length)(hf:Fk w bn)(hx:Bk w Z #[.int .i64 x,.int .i64 y] 32)(x9:bn≠g)(x8:Z≠g):
  jU fD 163 #[.slice (some ⟨g,0,none⟩) l.length A,.func (.func 164) #[] #[.pointer (some ⟨bn,0,none⟩),.pointer (some ⟨Z,0,none⟩)]] w fun e w'=>
   ∃c':Array gZ,e=.returned (.slice (some ⟨g,0,none⟩) (l.filter (fG x y)).length A)/\Bk w' g c' 32/\c'.size=A*2/\dX c' (l.filter (fG x y)) (l.filter (fG x y)).length/\Bx g w w':=by
 go_enter gY,fV;go_wp2_with fail;refine (B5 _ l x y bn Z w (Ts.cY h D W hm hn) hf hx).mono ?_;rintro e w1 ⟨r,rfl,hr,O⟩;have z5:=h.lt
 rcases hr with⟨rfl,M⟩|⟨k,rfl,hk,S,M⟩
 ·have hfl:Hid (l.filter (fG x y)=l):=by
   show _=_
   rw[rN];intro a ha;obtain⟨i,hi,rfl⟩:=qA ha;have:cV x y (tA l i) (tB l i)=false:=M i hi;rw[Dl hi,this];rfl
  have HF:=(show Hid _ from D);clear M D;go_wp2_with fail;go_ret;rw[hfl.out];exact⟨c,rfl,h.keep O,hs,HF.out,Bx.aA O⟩
 ·have HI:Hid (lP l x y k (k+1) c):=lP.start hk S M D;have z3:((k:Int) == -1)=false:=beq_eq_false_iff_ne.2 (by omega);have h1:=h.keep O;have HM:=(show Hid _ from hm);clear S M D;unfold maxLen at hm;go_wp2_with fail
  go_loopw [5,6] (fun a b wr=>∃(i j:Nat)(c':Array gZ),a=.int .i64 i/\b=.int .i64 j/\Hid (lP l x y i j c')/\Bk wr g c' 32/\c'.size=A*2/\Bx g w wr) (fun _ b _=>l.length-(intOf b).toNat)
  case atStart=>exact⟨k,k+1,c,rfl,by go_num,HI,h1,hs,Bx.aA O⟩
  case round=>
   obtain⟨i,j,c',rfl,rfl,H,I,N,J⟩:=hrel;have U:=H.out.lt;have u0:=H.out.le
   by_cases T:j<l.length
   ·obtain⟨c0,c1⟩:=H.out.high j (Lx _) T;have d0:=I.cell c0;have d1:=I.cell c1;clear c0 c1;generalize hX:tA l j=X at*;generalize hY:tB l j=Y at*;have EX:Hid (tA l j=X):=hX;have EY:Hid (tB l j=Y):=hY;clear hX hY;have z0:=I.lt;have Q:=hf.aN J x9;have R:=hx.aN J x8;have s:AT wr.heap.size wr (wr.alloc (.cells #[.int .i64 X,.int .i64 Y] 32)):=aG (sI _ _) _;have bv:=Bk.new (w:=wr) #[.int .i64 X,.int .i64 Y] 32 rfl;cases hp:cV x y X Y
    ·go_wp2_with fail;refine (vN hp (Q.keep s) (R.keep s)).mono ?_;rintro e w2 ⟨rfl,F⟩;have x0:=bv.keep F;have G:=(I.keep s).keep F;have V:=aH s F;obtain⟨v0,v1,_,_⟩:=x0.two;obtain⟨y0,q0⟩:=uF G (i:=i*2) (by omega);obtain⟨y1,q1⟩:=uF G (i:=i*2+1) (by omega);have f0:=G.free (i*2);have f1:=G.free (i*2+1);clear s F bv x0 Q R d0 d1;go_wp2_with fail;go_roundw
     case rel=>
      have y2:=(G.set (i*2) (.int .i64 X)).set (i*2+1) (.int .i64 Y);refine⟨i+1,j+1,_,by go_num,by go_num,?_,y2,by simpa using N,?_⟩
      ·have:=H.out.keep T (by omega) (by rw[EX.out,EY.out];exact hp);rw[EX.out,EY.out]at this;exact this
      ·exact (((J.trans (Bx.aA V)).ae rfl _).ae rfl _)
     case measure=>simp[intOf];omega
    ·go_wp2_with fail;refine (vN hp (Q.keep s) (R.keep s)).mono ?_;rintro e w2 ⟨rfl,F⟩;have G:=(I.keep s).keep F;have V:=aH s F;clear s F bv Q R d0 d1;go_wp2_with fail;go_roundw
     case rel=>
      refine⟨i,j+1,c',rfl,by go_num,?_,G,N,J.trans (Bx.aA V)⟩;exact H.out.skip T (by rw[EX.out,EY.out];exact hp)
     case measure=>simp[intOf];omega
   ·obtain rfl:j=l.length:=by omega
    obtain⟨w3,c3,u4,b3,s3,l3,x3⟩:=Eo (n:=l.length) I N U W (A-i);have z9:=Gt g i l.length A U W;have z8:=Hl g i l.length A (Nat.le_of_lt U) W;have L3:=(show Hid _ from l3);clear l3;go_wp2_with fail;go_ret;have e1:(l.take l.length).filter (fG x y)=l.filter (fG x y):=by rw[List.take_length]
    have e2:=H.out.len;rw[e1]at e2;refine⟨c3,by rw[e2];rfl,b3,by rw[s3];exact N,?_,J.trans x3⟩;have e3:=H.out.low;rw[e1]at e3;rw[e2];intro q hq;rw[L3.out _ (by omega),L3.out _ (by omega)];exact e3 q hq
theorem DE (h:aW w B v l):∀k,v.ownBlock=some k->k<w.heap.size:=by
 intro k s
 rcases kE h with⟨rfl,_⟩|⟨g,D,c,rfl,_,A,_⟩
 ·cases s
 ·have:g=k:=by simpa[gZ.ownBlock]using s
  subst this;exact A.lt
theorem FR (x y:Int)(A s:Nat)(w:iC)(hf:Fk w A)(hx:Bk w s #[.int .i64 x,.int .i64 y] 32):
  jU fD 163 #[.slice none 0 0,.func (.func 164) #[] #[.pointer (some ⟨A,0,none⟩),.pointer (some ⟨s,0,none⟩)]] w fun e F=>e=.returned (.slice none 0 0)/\AT w.heap.size w F:=by
 have G:Ts w (.slice none 0 0) []:=⟨none,0,rfl,Lx _,by unfold maxLen;omega,Nat.zero_le _,fun i hi=>by simp at hi⟩;go_enter gY,fV;go_wp2_with fail;refine (B5 _ [] x y A s w G hf hx).mono ?_;rintro e w1 ⟨r,rfl,hr,D⟩
 rcases hr with⟨rfl,_⟩|⟨k,_,H,_,_⟩
 ·go_wp2_with fail;go_ret;exact⟨rfl,D⟩
 ·simp at H
theorem FG {F s:Nat}(h:aW w B v l)(hn:l.length<=2097152)(hf:Fk w F)(hx:Bk w s #[.int .i64 x,.int .i64 y] 32)(S:F<B)(O:B<=w.heap.size)(N:∀k,v.ownBlock=some k->k<s):
  jU fD 163 #[v,.func (.func 164) #[] #[.pointer (some ⟨F,0,none⟩),.pointer (some ⟨s,0,none⟩)]] w fun e A=>
   ∃o,e=.returned o/\aW A B o (l.filter (fG x y))/\Bk A s #[.int .i64 x,.int .i64 y] 32/\AT B w A:=by
 rcases kE h with⟨rfl,rfl⟩|⟨g,H,c,rfl,hg,D,hs,M,hm,G⟩
 ·refine (FR x y F s w hf hx).mono ?_;rintro e A ⟨rfl,D⟩;exact⟨_,rfl,bJ h D,hx.keep D,Bx.bel (g:=B) (Bx.aA D) O (Lx _)⟩
 ·have R:=N g rfl;refine (F9 g H c l x y F s w D hs M hm hn G hf hx (by omega) (by omega)).mono ?_;rintro e A ⟨c',rfl,b',s',Q,I⟩;have J:(l.filter (fG x y)).length<=H:=Nat.le_trans (mF _ _) M;exact⟨_,rfl,tX b' Q s' J hm hg,hx.aN I (by omega),I.bel O hg⟩
def kV (acc:LI)(p:Int×Int):LI:=if dU acc p.1 p.2 then acc else acc.filter (fG p.1 p.2)++[p]
def iG (l:LI)(k:Nat):LI:=(l.take k).foldl kV []
theorem zC (l:LI)(s:k<l.length):iG l (k+1)=kV (iG l k) (tA l k,tB l k):=by
 have e:l[k]=(tA l k,tB l k):=by simp[tA,tB,s]
 unfold iG;rw[sE,oO s,List.foldl_append,<-e];rfl
theorem GP (l:LI):∀k,k<=l.length->(iG l k).length<=k:=by
 intro k
 induction k with
 | zero=>intro _;simp[iG]
 | succ k ih=>
  intro s;have:=ih (by omega);rw[zC l (by omega)];unfold kV
  split
  ·omega
  ·have:=mF (fG (tA l k) (tB l k)) (iG l k);simp;omega
theorem Az (h:dU l x y=r)(A:Ts w v l):
  jU fD 89 #[v,tv x y,.func (.func 90) #[] #[]] w fun e s=>e=.returned (.bool r)/\AT w.heap.size w s:=by
 rw[<- h];exact zN v l x y w A
theorem Dp (v:gZ)(l:LI)(w:iC)(h:Ts w v l):
  jU fD 94 #[v,.func (.func 90) #[] #[]] w fun e w'=>∃o:gZ,e=.returned o/\aW w' w.heap.size o (iG l l.length)/\AT w.heap.size w w':=by
 obtain⟨i0,hi,x9,x8,x7⟩:=info_parts mW;obtain⟨a,z9,rfl,hc,hm,hn,G⟩:=h;unfold maxLen at hm;have HC:=(show Hid _ from G);clear G;have y1:Fk (w.alloc (.cells #[.func (.func 90) #[] #[]] 112)) w.heap.size:=heap_alloc_new w _;have H:AT w.heap.size w (w.alloc (.cells #[.func (.func 90) #[] #[]] 112)):=aG (sI _ _) _;have y9:(w.alloc (.cells #[.func (.func 90) #[] #[]] 112)).heap.size=w.heap.size+1:=by simp
 go_enter Tryz.func94,Tryz.ntmps94;go_wp2_with fail;generalize w.alloc (.cells #[.func (.func 90) #[] #[]] 112)=w1 at*
 go_loopw [5,10] (fun o b wr=>∃k:Nat,k<=l.length/\b=.int .i64 k/\aW wr w1.heap.size o (iG l k)/\AT w1.heap.size w1 wr) (fun _ b _=>l.length-(intOf b).toNat)
 case atStart=>exact⟨0,by omega,rfl,⟨rfl,.inl ⟨rfl,rfl⟩⟩,sI _ _⟩
 case round=>
  obtain⟨k,hk,rfl,O,I⟩:=hrel;have M:=(show Hid _ from O);have z0:=GP l k hk;have U:=y1.keep I;have y8:=I.size
  by_cases T:k<l.length
  ·obtain⟨g,off,rfl,hg,c0,c1⟩:=HC.out k T;have d0:=cB I (cB H c0);have d1:=cB I (cB H c1);have HS:Hid (iG l (k+1)=kV (iG l k) (tA l k,tB l k)):=zC l T;clear c0 c1 O;generalize iG l k=N at*;generalize tA l k=X at*;generalize tB l k=Y at*;have A:AT wr.heap.size wr (wr.alloc (.cells #[.int .i64 X,.int .i64 Y] 32)):=aG (sI _ _) _;have bv:=Bk.new (w:=wr) #[.int .i64 X,.int .i64 Y] 32 rfl;have y0:=(U.keep A).cell;have J:=aW.ts (bJ M.out A) (by omega);cases F:dU N X Y
   ·have HZ:Hid (iG l (k+1)=N.filter (fG X Y)++[(X,Y)]):=by show _=_;rw[HS.out];unfold kV;rw[if_neg (by rw[F];simp)]
    have hfl:=mF (fG X Y) N;have x0:=DE M.out;go_wp2_with fail;refine (Az F J).mono ?_;rintro e w2 ⟨rfl,D⟩;have s:=aH A D;have h9:=bv.keep D;have z6:=s.size;have V:=U.keep s;have Q:=aH I s;have o2:=bJ M.out s;clear A D bv J y0 d0 d1 M;go_wp2_with fail;refine (FG o2 (by omega) V h9 (by omega) (by omega) x0).mono ?_;rintro e w3 ⟨o3,rfl,OW,y4,Z⟩;have W:=Q.trans Z;have z5:=W.size;obtain⟨v0,v1,_,_⟩:=y4.two;clear Z h9 V o2;generalize N.filter (fG X Y)=l3 at*
    go_wp2_with (at_builtin;refine lI _ rfl _ _ 27 rfl w1.heap.size 32 i0 (.agg #[.int .i64 0,.int .i64 0]) 2 16 fH hi x9 x8 x7 rfl (by decide) _ _ _ rfl (OW.alloc _) ⟨w3.heap.size,0,none⟩ 1 1 [.int .i64 X,.int .i64 Y] rfl rfl (vS _ _ _ _) (mV _ _) (by omega) (by unfold maxLen;omega) (by omega) (by simp;omega) (w3.heap.size+1) (by simp) ?_;intro g3 z3 w4 R S z8 z7)
    have y2:AT w1.heap.size w1 w4:=(aG W _).grown S (by simp;omega) (i7 OW);go_roundw
    case rel=>
     refine⟨k+1,by omega,by go_num,?_,y2⟩;rw[HZ.out]
     show w4.ownsRow _ _ _ _ _ _
     rw[iM];simpa using R
    case measure=>simp[intOf];omega
   ·have HZ:Hid (iG l (k+1)=N):=by show _=_;rw[HS.out];unfold kV;rw[if_pos F]
    go_wp2_with fail;refine (Az F J).mono ?_;rintro e w2 ⟨rfl,D⟩;have s:=aH A D;have Q:=aH I s;clear A D bv J;go_wp2_with fail;go_roundw
    case rel=>exact⟨k+1,by omega,by go_num,by rw[HZ.out];exact bJ M.out s,Q⟩
    case measure=>simp[intOf];omega
  ·obtain rfl:k=l.length:=by omega
   go_wp2_with fail;go_ret;exact⟨_,rfl,bQ M.out (by omega),H.trans (Bx.bel (g:=w.heap.size) (Bx.aA I) (by omega) (by omega))⟩
theorem IJ (a b x y:Int)(w:iC):jU fD 96 #[tv a b,tv x y] w fun e s=>e=.returned (.int .i64 (fM a x))/\AT w.heap.size w s:=by
 go_enter Tryz.func96,Tryz.ntmps96
 go_wp2_with (go_at_call 97;refine (pG _ _ _).mono ?_;rintro e s ⟨rfl,rfl⟩)
 go_ret;refine⟨rfl,?_⟩
 repeat' (first|(with_reducible exact sI _ _)|(with_reducible assumption)|(with_reducible refine aH ?_ (by with_reducible assumption))|(with_reducible refine aG ?_ _)|(with_reducible refine wR ?_)|(with_reducible refine dC ?_ _)|(with_reducible refine wH ?_ ?_ _)|(simp;done)|(simp;omega)|omega)
theorem AS {r:Int}(h:fM a x=r)(b y:Int)(w:iC):jU fD 96 #[tv a b,tv x y] w fun e s=>e=.returned (.int .i64 r)/\AT w.heap.size w s:=by
 rw[<- h];exact IJ a b x y w
theorem DV (L:LI)(hi:i<L.length)(p:Int×Int)(k:Nat):tA (L.set i p) k=if i=k then p.1 else tA L k:=by
 unfold tA;rw[oJ,sG]
 by_cases h:i=k
 ·subst h;simp[hi]
 ·simp[h]
theorem Ni (L:LI)(hi:i<L.length)(p:Int×Int)(k:Nat):tB (L.set i p) k=if i=k then p.2 else tB L k:=by
 unfold tB;rw[oJ,sG]
 by_cases h:i=k
 ·subst h;simp[hi]
 ·simp[h]
theorem dX.set {c:Array gZ}(h:dX c L n)(hi:i<n)(hn:n=L.length)(hs:n*2<=c.size)(X Y:Int):
  dX ((c.setIfInBounds (i*2) (.int .i64 X)).setIfInBounds (i*2+1) (.int .i64 Y)) (L.set i (X,Y)) n:=by
 intro k D;rw[DV L (by omega),Ni L (by omega)]
 by_cases e:i=k
 ·subst e;rw[if_pos rfl,if_pos rfl];have n2:i*2<c.size:=by omega
  have s:i*2+1<c.size:=by omega
  simp[n2,s]
 ·rw[if_neg e,if_neg e];have n1:¬i*2+1=k*2:=by omega
  have n2:¬i*2=k*2:=by omega
  have s:¬i*2+1=k*2+1:=by omega
  have A:¬i*2=k*2+1:=by omega
  simp only[B3,n1,n2,s,A,if_false];exact h k D
def zX (L:LI)(j:Nat):LI:=(L.set (j+1) (tA L j,tB L j)).set j (tA L (j+1),tB L (j+1))
theorem KI (L:LI)(h:j+1<L.length):(zX L j).Perm L:=by
 have A:(tA L j,tB L j)=L[j]:=by simp[tA,tB,show j<L.length by omega]
 have s:(tA L (j+1),tB L (j+1))=L[j+1]:=by simp[tA,tB,h]
 unfold zX;rw[A,s];exact List.set_set_perm h (by omega)
theorem Aq (L:LI)(h:j+1<L.length)(k:Nat):tA (zX L j) k=if j=k then tA L (j+1) else if j+1=k then tA L j else tA L k:=by
 unfold zX;rw[DV _ (by simp;omega),DV _ h]
structure kB (L:LI)(i j:Nat):Prop where
 rest:∀a b,a<b->b<=i->a≠j->b≠j->tA L a<=tA L b
 here:∀b,j<b->b<=i->tA L j<=tA L b
def mS (L:LI)(i:Nat):Prop:=∀a b,a<b->b<i->tA L a<=tA L b
theorem kB.start (h:mS L i):kB L i i:=⟨fun a b h1 h2 _ h4=>h a b h1 (by omega),fun b h1 h2=>by omega⟩
theorem kB.eV (h:kB L i 0):mS L (i+1):=fun a b h1 h2=>by
 by_cases e:a=0
 ·subst e;exact h.here b h1 (by omega)
 ·exact h.rest a b h1 (by omega) e (by omega)
theorem kB.eU (h:kB L i (j+1))(s:tA L j<=tA L (j+1)):mS L (i+1):=fun a b h1 h2=>by
 by_cases e:a=j+1
 ·subst e;exact h.here b h1 (by omega)
 ·by_cases A:b=j+1
  ·subst A
   by_cases D:a=j
   ·subst D;exact s
   ·exact Int.le_trans (h.rest a j (by omega) (by omega) e (by omega)) s
  ·exact h.rest a b h1 (by omega) e A
theorem kB.step (h:kB L i (j+1))(s:j+1<L.length)(D:tA L (j+1)<tA L j):kB (zX L j) i j:=by
 constructor
 ·intro a b h1 h2 h3 h4;rw[Aq L s a,Aq L s b,if_neg (fun e=>h3 e.symm),if_neg (fun e:j=b=>h4 e.symm)]
  by_cases e:j+1=a
  ·rw[if_pos e,if_neg (by omega)];exact h.rest j b (by omega) h2 (by omega) (by omega)
  ·rw[if_neg e]
   by_cases A:j+1=b
   ·rw[if_pos A];exact h.rest a j (by omega) (by omega) (by omega) (by omega)
   ·rw[if_neg A];exact h.rest a b h1 h2 (by omega) (by omega)
 ·intro b h1 h2;rw[Aq L s j,Aq L s b,if_pos rfl,if_neg (show ¬j=b by omega)]
  by_cases e:j+1=b
  ·rw[if_pos e];omega
  ·rw[if_neg e];exact h.here b (by omega) h2
theorem GQ (g F:Nat)(c:Array gZ)(l:LI)(w:iC)(h:Bk w g c 32)(hs:c.size=F*2)(hc:l.length<=F)(hn:l.length<=12)(J:dX c l l.length):
  jU fD 205 #[.slice (some ⟨g,0,none⟩) l.length F,.int .i64 0,.int .i64 (l.length:Int),.func (.func 96) #[] #[]] w fun e w'=>
   ∃(c':Array gZ)(l':LI),e=.returned (.tuple #[])/\l'.Perm l/\mS l' l.length/\Bk w' g c' 32/\c'.size=F*2/\dX c' l' l.length/\Bx g w w':=by
 have HF:=(show Hid _ from J);clear J;have HP:Hid (∀L:LI,L.Perm l->L.length=l.length):=fun L h=>h.length_eq;have HR:Hid (l.Perm l):=List.Perm.refl l;obtain⟨n,hN⟩:∃n,l.length=n:=⟨_,rfl⟩;have HN:Hid (l.length=n):=hN;rw[hN]at HF hc hn ⊢;clear hN;go_enter Tryz.func205,Tryz.ntmps205;go_wp2_with fail
 go_loopw [8] (fun a wr=>∃(i:Nat)(L:LI)(c':Array gZ),a=.int .i64 i/\1<=i/\(i<=n\/i=1)/\Hid (L.Perm l)/\Hid (mS L i)/\Hid (dX c' L n)/\Bk wr g c' 32/\c'.size=F*2/\Bx g w wr) (fun a _=>n-(intOf a).toNat)
 case atStart=>exact⟨1,l,c,by go_num,by omega,.inr rfl,HR,(fun a b h1 h2=>by omega),HF,h,hs,Bx.refl _ _⟩
 case round=>
  obtain⟨i,L,c',rfl,v4,v3,x0,h9,x3,V,U,S⟩:=hrel
  by_cases v1:i<n
  ·have hI:Hid (kB L i i):=kB.start h9.out;go_wp2_with fail
   go_loopw [9] (fun b wq=>∃(j:Nat)(M:LI)(c1:Array gZ),b=.int .i64 j/\j<=i/\Hid (M.Perm l)/\Hid (kB M i j)/\Hid (dX c1 M n)/\Bk wq g c1 32/\c1.size=F*2/\Bx g w wq) (fun b _=>(intOf b).toNat)
   case atStart=>exact⟨i,L,c',rfl,Lx _,x0,hI,x3,V,U,S⟩
   case round=>
    clear x0 h9 x3 V U S hI;obtain⟨j,M,c1,rfl,hj,N,x2,I,D,T,R⟩:=hrel;have x1:M.length=n:=(HP.out M N.out).trans HN.out
    by_cases y3:j=0
    ·subst y3;have hS:Hid (mS M (i+1)):=x2.out.eV;have y2:decide ((0:Int)<((0:Nat):Int))=false:=rfl;have hne:=jC wr;go_wp2_with fail
     (refine jJ (by kernel_rfl) (by kernel_rfl) ?_;(repeat (go_big_quiet_step ((first|(go_at_call 96;exact iJ (AS rfl _ _ _))))));refine kX ?_)
     intro O s
     replace s:=jM s
     have G:=R.trans (Bx.aA s);have A:=D.keep s;go_wp2_with fail;go_roundw
     case rel=>exact⟨i+1,M,c1,by go_num,by omega,.inl (by omega),N,hS,I,A,T,G⟩
     case measure=>simp[intOf];omega
    ·obtain⟨q,rfl⟩:∃q,j=q+1:=⟨j-1,by omega⟩;have y2:decide ((0:Int)<((q+1:Nat):Int))=true:=by simp
     have v2:((q+1:Nat):Int)-1=(q:Int):=by omega
     obtain⟨c0,c2⟩:=I.out q (by omega);obtain⟨c3,c4⟩:=I.out (q+1) (by omega);have d0:∀p:dH wr,p.ww.cell? ⟨g,q*2,none⟩=some (.int .i64 (tA M q)):=fun p=>cB p.below (D.cell c0);have d1:∀p:dH wr,p.ww.cell? ⟨g,q*2+1,none⟩=some (.int .i64 (tB M q)):=fun p=>cB p.below (D.cell c2);have d2:∀p:dH wr,p.ww.cell? ⟨g,(q+1)*2,none⟩=some (.int .i64 (tA M (q+1))):=fun p=>cB p.below (D.cell c3);have d3:∀p:dH wr,p.ww.cell? ⟨g,(q+1)*2+1,none⟩=some (.int .i64 (tB M (q+1))):=fun p=>cB p.below (D.cell c4);have hne:=jC wr;clear c0 c2 c3 c4;have z1:Hid (tA M (q+1)<tA M q->kB (zX M q) i q):=fun e=>x2.out.step (by omega) e;have z0:Hid (tA M q<=tA M (q+1)->mS M (i+1)):=fun e=>x2.out.eU e;have y9:Hid (dX (((c1.setIfInBounds ((q+1)*2) (.int .i64 (tA M q))).setIfInBounds ((q+1)*2+1) (.int .i64 (tB M q))).setIfInBounds (q*2) (.int .i64 (tA M (q+1))) |>.setIfInBounds (q*2+1) (.int .i64 (tB M (q+1)))) (zX M q) n):=
      (I.out.set (i:=q+1) (by omega) x1.symm (by omega) (tA M q) (tB M q)).set (i:=q) (by omega) (by simp[x1]) (by simp;omega) (tA M (q+1)) (tB M (q+1))
     have y8:Hid ((zX M q).Perm l):=(KI M (by omega)).trans N.out;generalize tA M q=X at*;generalize tB M q=Y at*;generalize tA M (q+1)=Q at *;generalize tB M (q+1)=Y' at *
     by_cases Z:Q<X
     ·have H:fM Q X = -1:=by simp[fM,Z]
      go_wp2_with fail
      (refine jJ (by kernel_rfl) (by kernel_rfl) ?_;(repeat (go_big_quiet_step ((first|(go_at_call 96;exact iJ (AS H _ _ _))))));refine kX ?_)
      intro O s
      replace s:=jM s
      have G:=R.trans (Bx.aA s);have A:=D.keep s;have e0:O.cell? ⟨g,q*2,none⟩=some (.int .i64 X):=cB s (d0 ⟨wr,sI _ _⟩);have e1:O.cell? ⟨g,q*2+1,none⟩=some (.int .i64 Y):=cB s (d1 ⟨wr,sI _ _⟩);have e2:O.cell? ⟨g,(q+1)*2,none⟩=some (.int .i64 Q):=cB s (d2 ⟨wr,sI _ _⟩);have e3:O.cell? ⟨g,(q+1)*2+1,none⟩=some (.int .i64 Y'):=cB s (d3 ⟨wr,sI _ _⟩);have f0:=A.free (q*2);have f1:=A.free (q*2+1);have f2:=A.free ((q+1)*2);have f3:=A.free ((q+1)*2+1);clear d0 d1 d2 d3 hne;go_wp2_with fail
      go_region
      have y4:=((((A.set ((q+1)*2) (.int .i64 X)).set ((q+1)*2+1) (.int .i64 Y)).set (q*2) (.int .i64 Q)).set (q*2+1) (.int .i64 Y')).drew;have x4:=(((((G.ae (p:=⟨g,(q+1)*2,none⟩) rfl (.int .i64 X)).ae (p:=⟨g,(q+1)*2+1,none⟩) rfl (.int .i64 Y)).ae (p:=⟨g,q*2,none⟩) rfl (.int .i64 Q)).ae (p:=⟨g,q*2+1,none⟩) rfl (.int .i64 Y'))).drew;have y7:Hid (kB (zX M q) i q):=z1.out Z;clear e0 e1 e2 e3 f0 f1 f2 f3 A;generalize iC.drew _=W at*;go_wp2_with fail;go_roundw
      case rel=>exact⟨q,zX M q,_,by go_num,by omega,y8,y7,y9,y4,by simpa using T,x4⟩
      case measure=>simp[intOf]
     ·have H:∃r,fM Q X=r/\decide (r<0)=false:=⟨_,rfl,decide_eq_false (by rw[Kv];exact Z)⟩;obtain⟨r,H,v0⟩:=H;have hS:Hid (mS M (i+1)):=z0.out (by omega);go_wp2_with fail
      (refine jJ (by kernel_rfl) (by kernel_rfl) ?_;(repeat (go_big_quiet_step ((first|(go_at_call 96;exact iJ (AS H _ _ _))))));refine kX ?_)
      intro O s
      replace s:=jM s
      have G:=R.trans (Bx.aA s);have A:=D.keep s;clear d0 d1 d2 d3 hne;go_wp2_with fail;go_roundw
      case rel=>exact⟨i+1,M,c1,by go_num,by omega,.inl (by omega),N,hS,I,A,T,G⟩
      case measure=>simp[intOf];omega
  ·go_wp2_with fail
   go_end0
   exact⟨c',L,rfl,x0.out,fun a b h1 h2=>h9.out a b h1 (by omega),V,U,x3.out,S⟩
theorem JP (n:Nat)(hn:n<=12)(w:iC):jU fD 214 #[.int .u64 n] w fun e s=>(∃r:Int,e=.returned (.int .i64 r))/\s=w:=by
 have h1:¬(n:Int) ≥ 4294967296:=by omega
 have h2:¬(n:Int) ≥ 65536:=by omega
 have h3:¬(n:Int) ≥ 256:=by omega
 go_enter Tryz.func214,Tryz.ntmps214;go_wp2_with fail;go_ret;exact⟨⟨_,rfl⟩,rfl⟩
theorem G0 (n:Nat)(hn:n<=12)(w:iC):jU fD 166 #[.int .u64 n] w fun e s=>(∃r:Int,e=.returned (.int .i64 r))/\s=w:=by
 go_enter Tryz.func166,Tryz.ntmps166
 go_wp2_with (go_at_call 214;refine (JP n hn _).mono ?_;rintro e s ⟨⟨r,rfl⟩,rfl⟩)
 go_ret;exact⟨⟨_,rfl⟩,rfl⟩
theorem Mp (g s:Nat)(c:Array gZ)(l:LI)(r:Int)(w:iC)(h:Bk w g c 32)(hs:c.size=s*2)(F:l.length<=s)(hn:l.length<=12)(A:dX c l l.length):
  jU fD 165 #[.slice (some ⟨g,0,none⟩) l.length s,.int .i64 0,.int .i64 (l.length:Int),.int .i64 r,.func (.func 96) #[] #[]] w fun e D=>
   ∃(c':Array gZ)(l':LI),e=.returned (.tuple #[])/\l'.Perm l/\mS l' l.length/\Bk D g c' 32/\c'.size=s*2/\dX c' l' l.length/\Bx g w D:=by
 have H:=GQ g s c l w h hs F hn A;clear h A;have G:(l.length:Int)<=12:=by omega
 generalize l.length=n at*;go_enter Tryz.func165,Tryz.ntmps165;go_wp2_with fail;refine wp_loop_rounds 1 ?_;rw[rounds_succ];go_wp2_with fail;refine H.mono ?_;rintro e w1 ⟨c',l',rfl,h1,h2,h3,h4,h5,h6⟩;go_wp2_with fail
 (try simp only[Exit.inBlock,Exit.then])
 refine bodyPost_ret (results_none rfl _ _ _) rfl ?_;exact⟨c',l',rfl,h1,h2,h3,h4,h5,h6⟩
theorem LP (g s:Nat)(c:Array gZ)(l:LI)(w:iC)(h:Bk w g c 32)(hs:c.size=s*2)(F:l.length<=s)(hn:l.length<=12)(A:dX c l l.length):
  jU fD 95 #[.slice (some ⟨g,0,none⟩) l.length s,.func (.func 96) #[] #[]] w fun e D=>
   ∃(c':Array gZ)(l':LI),e=.returned (.tuple #[])/\l'.Perm l/\mS l' l.length/\Bk D g c' 32/\c'.size=s*2/\dX c' l' l.length/\Bx g w D:=by
 have H:=fun r=>Mp g s c l r w h hs F hn A;clear h A;generalize l.length=n at*;go_enter Tryz.func95,Tryz.ntmps95
 go_wp2_with (first|(go_at_call 166;refine (G0 n hn _).mono ?_;rintro e D ⟨⟨r,rfl⟩,rfl⟩)|(go_at_call 165;refine (H _).mono ?_;rintro e w1 ⟨c',l',rfl,h1,h2,h3,h4,h5,h6⟩))
 go_end0
 exact⟨c',l',rfl,h1,h2,h3,h4,h5,h6⟩
end Go.Proofs.YtbdpcngcbnoioaaGreatDoor
