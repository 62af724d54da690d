import Derived.Test.YtbdpcngcbnoioaaGreatDoorGtX
set_option maxRecDepth 100000
set_option maxHeartbeats 8000000
namespace Go.Proofs.YtbdpcngcbnoioaaGreatDoor
open Go.RowKit
open Go.Proofs.Tryz renaming prog->fM,ntmps236->fQ,func236->gD
open Go renaming Value->gM,World->gQ,Builtin->gX,IntKind->iM,Calls->iP
open Go.Builtin renaming zeroCells->jB,clear_->jO
open Go.RowKit renaming Below->mO
open Go.RowKit.Below renaming refl->nA
open _root_.Option renaming none->nB
theorem GP {w:gQ}{g i n D:Nat}{c:Array gM}(h:Bk w g c 98)(hs:c.size=D*3)(hi:i<n)(hn:n<=D)(L:Nat):
  ∃G c',(∀I,(jO #[35] I #[.slice (some ⟨g,i*3,none⟩) (n-i) L]).run fM w=.ok (.tuple #[]) G)/\Bk G g c' 98/\c'.size=c.size/\(∀j,j<i*3->c'[j]?=c[j]?)/\Bx g w G:=by
 have s:∀w,(zeroValue 98).run fM w=.ok (.agg #[.int .i64 0,.int .i64 0,.int .i64 0]) w:=fun w=>Tryz.zeroValue98 w;have B:(gM.agg #[.int .i64 0,.int .i64 0,.int .i64 0]).cells=#[.int .i64 0,.int .i64 0,.int .i64 0]:=by simp[gM.cells]
 obtain⟨c',h1,h2,h3,h4⟩:=h.setCells (jB (gM.agg #[.int .i64 0,.int .i64 0,.int .i64 0]).cells (n-i)).toList (i*3);refine⟨_,c',fun I=>?_,h1,h2,h3,h4⟩;have H:(jB (gM.agg #[.int .i64 0,.int .i64 0,.int .i64 0]).cells (n-i)).toList.length=(n-i)*3:=by simp[jB,B]
 have A:=run_storeCells_cells (P:=fM) g (i*3) (jB (gM.agg #[.int .i64 0,.int .i64 0,.int .i64 0]).cells (n-i)).toList 0 w
  (fun j J=>by rw[H]at J;rw[Nat.add_zero,h.cell (Array.getElem?_eq_getElem (show i*3+j<c.size by omega))];rfl) (fun j _=>h.free _)
  (fun v s=>by
   rw[B]at s;simp[jB]at s;obtain⟨a,_,rfl⟩:=s;have:a%3=0\/a%3=1\/a%3=2:=by omega
   rcases this with e|e|e<;>simp[e]<;>rfl)
 simp only[Nat.add_zero]at A;obtain⟨m,hm⟩:∃m,n-i=m+1:=⟨n-i-1,by omega⟩;rw[hm]at A ⊢;simp[jO,run_underlying Tryz.underlying35,s,A]
theorem AI (g i n a:Nat)(hi:i<n)(hn:n<=a)(u:gQ):(Instr.slice 35 (.slice (some ⟨g,0,none⟩) n a) (some (.int .i64 i)) nB nB).run fM u=.ok (.slice (some ⟨g,i*3,none⟩) (n-i) (a-i)) u:=by
 have s:fM.underlying 35=some (.slice (fM.elem 35)):=by kernel_rfl
 have hs:∀u:gQ,(sizeOf (fM.elem 35)).run fM u=.ok 3 u:=fun u=>by kernel_rfl
 rw[run_slice_l (P:=fM) u 35 _ _ _ s .i64 i (by omega) (by omega),hs u];have hne:¬a=i:=by omega
 simp[Result.andThen,sliced,Addr.add,hne];omega
theorem Gx (g i n a:Nat)(hi:i<=n)(hn:n<=a)(u:gQ):(Instr.slice 35 (.slice (some ⟨g,0,none⟩) n a) nB (some (.int .i64 i)) nB).run fM u=.ok (.slice (some ⟨g,0,none⟩) i a) u:=by
 have s:fM.underlying 35=some (.slice (fM.elem 35)):=by kernel_rfl
 have hs:∀u:gQ,(sizeOf (fM.elem 35)).run fM u=.ok 3 u:=fun u=>by kernel_rfl
 rw[run_slice_h (P:=fM) u 35 _ _ _ s .i64 i (by omega) (by omega),hs u];simp[Result.andThen,sliced,Addr.add]
theorem uB {K V D a g s:Int}{b:Bool}(L:(K==a)=b)(w:gQ):
  iP fM 237 #[iv K V D,iv a g s] w fun e A=>e=.returned (.bool b)/\mO w.heap.size w A:=by
 have I:=(Bk.new (w:=w) #[.int .i64 K,.int .i64 V,.int .i64 D] 98 rfl).alloc (.cells #[.int .i64 a,.int .i64 g,.int .i64 s] 98);have H:=Bk.new (w:=w.alloc (.cells #[.int .i64 K,.int .i64 V,.int .i64 D] 98)) #[.int .i64 a,.int .i64 g,.int .i64 s] 98 rfl;have G:=aH (aH (nA w.heap.size w) (.cells #[.int .i64 K,.int .i64 V,.int .i64 D] 98)) (.cells #[.int .i64 a,.int .i64 g,.int .i64 s] 98);obtain⟨J,_,_⟩:=I.three;obtain⟨B,_,_⟩:=H.three;simp only[gQ.size_alloc]at B;go_enter Tryz.func237,Tryz.ntmps237;go_wp2_with fail;go_ret;exact⟨rfl,G⟩
theorem Dg (w:gQ):iP fM 236 #[.slice none 0 0,.func (.func 237) #[] #[]] w fun e a=>e=.returned (.slice none 0 0)/\mO w.heap.size w a:=by
 go_enter gD,fQ;go_wp2_with fail;go_ret;exact⟨rfl,nA _ _⟩
theorem Bk.dp {w:gQ}{g:Nat}{c:Array gM}{t:TypeId}(h:Bk w g c t)(i:Nat)(x y z:gM):
  Bk (((w.setCell ⟨g,i,none⟩ x).setCell ⟨g,i+1,none⟩ y).setCell ⟨g,i+2,none⟩ z) g (((c.setIfInBounds i x).setIfInBounds (i+1) y).setIfInBounds (i+2) z) t:=((h.set i x).set (i+1) y).set (i+2) z
theorem Eg (g s:Nat)(c:Array gM)(l:List It)(w:gQ)(h:Bk w g c 98)(hs:c.size=s*3)(hc:l.length<=s)(hm:s<=maxLen)(hn:l.length<=2097152)(x5:jJ nQ 3 c l l.length):
  iP fM 236 #[.slice (some ⟨g,0,none⟩) l.length s,.func (.func 237) #[] #[]] w fun e w'=>
   ∃c':Array gM,e=.returned (.slice (some ⟨g,0,none⟩) (mK l l.length).length s)/\Bk w' g c' 98/\c'.size=s*3/\jJ nQ 3 c' (mK l l.length) (mK l l.length).length/\Bx g w w':=by
 have HF:Hid (jJ nQ 3 c l l.length):=x5;have HS:Hid (c.size=s*3):=hs;have HM:Hid (s<=maxLen):=hm;unfold maxLen at hm;clear x5
 by_cases h2:l.length<2
 ·have e:Hid (mK l l.length=l):=by
   show _=_
   rw[Bu (Nat.le_refl _) (fun j hj=>CH (by omega)),List.take_length]
  have ih:((l.length:Int)<2):=by omega
  go_enter gD,fQ;go_wp2_with fail;go_ret;rw[e.out];exact⟨c,rfl,h,HS.out,HF.out,Bx.refl _ _⟩
 ·have ih:¬((l.length:Int)<2):=by omega
  go_enter gD,fQ;go_wp2_with fail
  go_loopw [5] (fun b wr=>∃k:Nat,1<=k/\k<=l.length/\b=.int .i64 k/\(∀j,j<k->qA l j=true)/\mO w.heap.size w wr) (fun b _=>l.length-(intOf b).toNat)
  case atStart=>exact⟨1,by omega,by omega,rfl,fun j hj=>CH hj,nA _ _⟩
  case round=>
   obtain⟨k,b6,hk,rfl,y3,hb⟩:=hrel;have HA:Hid (∀j,j<k->qA l j=true):=y3;clear y3;have z1:=h.keep hb
   by_cases x2:k<l.length
   ·have ik:((k:Int)<(l.length:Int)):=by omega
    have a9:iM.i64.wrap ((k:Int)-1)=((k-1:Nat):Int):=by rw[iM.wrap_i64]<;>omega
    have b0:(((k-1:Nat):Int)<(l.length:Int)):=by omega
    obtain⟨⟨⟨K,V⟩,D⟩,L⟩:∃r,gI l k=r:=⟨_,rfl⟩;obtain⟨⟨⟨K',V'⟩,D'⟩,B⟩:∃r,gI l (k-1)=r:=⟨_,rfl⟩;have J:Hid ((gI l k).1.1=K/\(gI l (k-1)).1.1=K'):=⟨by rw[L],by rw[B]⟩;have I:Hid (∀W,mO w.heap.size w W->(fun W=>W.cell? ⟨g,k*3,none⟩=some (.int .i64 K)/\W.cell? ⟨g,k*3+1,none⟩=some (.int .i64 V)/\W.cell? ⟨g,k*3+2,none⟩=some (.int .i64 D)/\W.cell? ⟨g,(k-1)*3,none⟩=some (.int .i64 K')/\W.cell? ⟨g,(k-1)*3+1,none⟩=some (.int .i64 V')/\W.cell? ⟨g,(k-1)*3+2,none⟩=some (.int .i64 D')) W):=fun W hW=>by
     have H:=h.keep hW;have R:=HF.out k _ x2 (qP x2);have Q:=HF.out (k-1) _ (by omega) (qP (show k-1<l.length by omega));rw[L]at R;rw[B]at Q;exact⟨H.cell (R 0 (by omega)),H.cell (R 1 (by omega)),H.cell (R 2 (by omega)),H.cell (Q 0 (by omega)),H.cell (Q 1 (by omega)),H.cell (Q 2 (by omega))⟩
    have x6:=hb.drew;clear L B;obtain⟨c0,c1,c2,c3,c4,c5⟩:=I.out _ hb;cases hne:(K==K')
    ·have HN:Hid (∀j,j<k+1->qA l j=true):=fun j hj=>by
      by_cases e:j=k
      ·subst e;exact CI fun e=>by rw[J.out.1,J.out.2]at e;rw[e]at hne;simp at hne
      ·exact HA.out j (by omega)
     clear HA J;go_wp2_with fail
     go_region_held3 (fun W=>W.cell? ⟨g,k*3,none⟩=some (.int .i64 K)/\W.cell? ⟨g,k*3+1,none⟩=some (.int .i64 V)/\W.cell? ⟨g,k*3+2,none⟩=some (.int .i64 D)/\W.cell? ⟨g,(k-1)*3,none⟩=some (.int .i64 K')/\W.cell? ⟨g,(k-1)*3+1,none⟩=some (.int .i64 V')/\W.cell? ⟨g,(k-1)*3+2,none⟩=some (.int .i64 D'))
      (first|exact I.out _ x6|exact I.out _ S)
      (first
       | (go_at_call 237;with_reducible refine (uB hne _).mono ?_;rintro e wa ⟨rfl,x9⟩;have S:mO w.heap.size w wa:=aG x6 x9))
     go_wp2_with fail;go_roundw
     case rel=>exact⟨k+1,by omega,by omega,by go_num,HN.out,S⟩
     case measure=>simp[intOf];omega
    ·have b4:=AI g k l.length s x2 hc;have HI:Hid (vC l k (k+1) c):=vC.start x2 (Ke (by omega) (by rw[J.out.1,J.out.2];simpa using hne)) HA.out HF.out;clear HA J;go_wp2_with fail
     go_region_held3 (fun W=>W.cell? ⟨g,k*3,none⟩=some (.int .i64 K)/\W.cell? ⟨g,k*3+1,none⟩=some (.int .i64 V)/\W.cell? ⟨g,k*3+2,none⟩=some (.int .i64 D)/\W.cell? ⟨g,(k-1)*3,none⟩=some (.int .i64 K')/\W.cell? ⟨g,(k-1)*3+1,none⟩=some (.int .i64 V')/\W.cell? ⟨g,(k-1)*3+2,none⟩=some (.int .i64 D'))
      (first|exact I.out _ x6|exact I.out _ S)
      (first
       | (go_at_call 237;with_reducible refine (uB hne _).mono ?_;rintro e wa ⟨rfl,x9⟩;have S:mO w.heap.size w wa:=aG x6 x9))
     have x8:=h.keep S;go_wp2_with fail
     go_loopw [5,7] (fun a b wr=>∃(i q:Nat)(c':Array gM),a=.int .i64 i/\b=.int .i64 q/\1<=q/\k+q<=l.length/\Hid (vC l i (k+q) c')/\Bk wr g c' 98/\c'.size=s*3/\Bx g w wr) (fun _ b _=>l.length-(intOf b).toNat)
     case atStart=>exact⟨k,1,c,rfl,rfl,by omega,by omega,HI,x8,HS.out,Bx.aD S⟩
     case round=>
      clear c0 c1 c2 c3 c4 c5 z1 x8 I;obtain⟨i,q,c',rfl,rfl,b5,hq,M,x4,x1,x7⟩:=hrel;have b7:=M.out.lt
      by_cases Z:k+q<l.length
      ·have v5:((q:Int)<(l.length:Int)-(k:Int)):=by omega
       have a4:iM.i64.wrap ((q:Int)-1)=((q-1:Nat):Int):=by rw[iM.wrap_i64]<;>omega
       have a8:(((q-1:Nat):Int)<(l.length:Int)-(k:Int)):=by omega
       have a7:((q:Int)-1<(l.length:Int)-(k:Int)):=by omega
       have a6:(((q-1:Nat):Int)<((l.length-k:Nat):Int)):=by omega
       have a5:q-1<l.length-k:=by omega
       obtain⟨⟨⟨U,X⟩,Y⟩,L⟩:∃r,gI l (k+q)=r:=⟨_,rfl⟩;obtain⟨⟨⟨U',X'⟩,Y'⟩,B⟩:∃r,gI l (k+q-1)=r:=⟨_,rfl⟩;have HG:Hid (gI l (k+q)=((U,X),Y)):=L;have J:Hid ((gI l (k+q)).1.1=U/\(gI l (k+q-1)).1.1=U'):=⟨by rw[L],by rw[B]⟩;have I:Hid (∀W,mO wr.heap.size wr W->(fun W=>W.cell? ⟨g,k*3+q*3,none⟩=some (.int .i64 U)/\W.cell? ⟨g,k*3+q*3+1,none⟩=some (.int .i64 X)/\W.cell? ⟨g,k*3+q*3+2,none⟩=some (.int .i64 Y)/\W.cell? ⟨g,k*3+(q-1)*3,none⟩=some (.int .i64 U')/\W.cell? ⟨g,k*3+(q-1)*3+1,none⟩=some (.int .i64 X')/\W.cell? ⟨g,k*3+(q-1)*3+2,none⟩=some (.int .i64 Y')) W):=fun W hW=>by
        have H:=x4.keep hW;have R:=M.out.high (k+q) (by omega) Z;have Q:=M.out.high (k+q-1) (by omega) (by omega);rw[L,show (k+q)*3=k*3+q*3 by omega]at R;rw[B,show (k+q-1)*3=k*3+(q-1)*3 by omega]at Q;exact⟨H.cell (R 0 (by omega)),H.cell (R 1 (by omega)),H.cell (R 2 (by omega)),H.cell (Q 0 (by omega)),H.cell (Q 1 (by omega)),H.cell (Q 2 (by omega))⟩
       have T:mO wr.heap.size wr wr.drew:=(nA _ _).drew;clear L B;obtain⟨d0,d1,d2,d3,d4,d5⟩:=I.out _ (nA _ _);cases O:(U==U')
       ·have HN:Hid (vC l (i+1) (k+(q+1)) (((c'.setIfInBounds (i*3) (.int .i64 U)).setIfInBounds (i*3+1) (.int .i64 X)).setIfInBounds (i*3+2) (.int .i64 Y))):=
         M.out.keep Z (by omega) (CI fun e=>by rw[J.out.1,J.out.2]at e;rw[e]at O;simp at O) HG.out
        clear M J;go_wp2_with fail
        go_region_held3 (fun W=>W.cell? ⟨g,k*3+q*3,none⟩=some (.int .i64 U)/\W.cell? ⟨g,k*3+q*3+1,none⟩=some (.int .i64 X)/\W.cell? ⟨g,k*3+q*3+2,none⟩=some (.int .i64 Y)/\W.cell? ⟨g,k*3+(q-1)*3,none⟩=some (.int .i64 U')/\W.cell? ⟨g,k*3+(q-1)*3+1,none⟩=some (.int .i64 X')/\W.cell? ⟨g,k*3+(q-1)*3+2,none⟩=some (.int .i64 Y'))
         (first|exact I.out _ T|exact I.out _ A)
         (first
          | (go_at_call 237;with_reducible refine (uB O _).mono ?_;rintro e x0 ⟨rfl,h9⟩;have A:mO wr.heap.size wr x0:=aG T h9))
        have G:=x4.keep A;clear d0 d1 d2 d3 d4 d5;obtain⟨d0,d1,d2,-,-,-⟩:=I.out _ A;obtain⟨y0,q0⟩:=Bt G (i:=i*3) (by omega);obtain⟨y1,q1⟩:=Bt G (i:=i*3+1) (by omega);obtain⟨y2,q2⟩:=Bt G (i:=i*3+2) (by omega);have f0:=G.free (i*3);have R:=G.free (i*3+1);have Q:=G.free (i*3+2);have v6:Bx g w x0:=x7.trans (Bx.aD A);have b1:((i:Int)<(l.length:Int)):=by omega
        go_wp2_with fail;go_roundw
        case rel=>
         exact⟨i+1,q+1,_,by go_num,by go_num,by omega,by omega,HN,G.dp (i*3) _ _ _,by simpa using x1,((v6.bj rfl _).bj rfl _).bj rfl _⟩
        case measure=>simp[intOf];omega
       ·have HN:Hid (vC l i (k+(q+1)) c'):=M.out.skip Z (Ke (by omega) (by rw[J.out.1,J.out.2];simpa using O));clear M J;go_wp2_with fail
        go_region_held3 (fun W=>W.cell? ⟨g,k*3+q*3,none⟩=some (.int .i64 U)/\W.cell? ⟨g,k*3+q*3+1,none⟩=some (.int .i64 X)/\W.cell? ⟨g,k*3+q*3+2,none⟩=some (.int .i64 Y)/\W.cell? ⟨g,k*3+(q-1)*3,none⟩=some (.int .i64 U')/\W.cell? ⟨g,k*3+(q-1)*3+1,none⟩=some (.int .i64 X')/\W.cell? ⟨g,k*3+(q-1)*3+2,none⟩=some (.int .i64 Y'))
         (first|exact I.out _ T|exact I.out _ A)
         (first
          | (go_at_call 237;with_reducible refine (uB O _).mono ?_;rintro e x0 ⟨rfl,h9⟩;have A:mO wr.heap.size wr x0:=aG T h9))
        have G:=x4.keep A;go_wp2_with fail;go_roundw
        case rel=>exact⟨i,q+1,c',rfl,by go_num,by omega,by omega,HN,G,x1,x7.trans (Bx.aD A)⟩
        case measure=>simp[intOf];omega
      ·have hend:k+q=l.length:=by omega
       obtain⟨w3,c3,b8,b3,s3,l3,x3⟩:=GP (n:=l.length) x4 x1 (i:=i) (by omega) hc (s-i);have w5:=AI g i l.length s (by omega) hc;have b2:=Gx g i l.length s (by omega) hc;have v5:¬((q:Int)<(l.length:Int)-(k:Int)):=by omega
       have L3:=(show Hid _ from l3);clear l3;go_wp2_with fail;go_ret;have hI:=M.out;rw[hend]at hI;have e2:=hI.len;refine⟨by rw[e2];rfl,c3,b3,by rw[s3];exact x1,?_,x7.trans x3⟩;rw[e2];intro z x hz hx y hy;rw[L3.out _ (by omega)];exact hI.low z x hz hx y hy
   ·obtain rfl:k=l.length:=by omega
    have ik:¬((l.length:Int)<(l.length:Int)):=by omega
    have e:Hid (mK l l.length=l):=by
     show _=_
     rw[Bu (Nat.le_refl _) HA.out,List.take_length]
    go_wp2_with fail;go_ret;rw[e.out];exact⟨rfl,c,z1,HS.out,HF.out,Bx.aD hb⟩
theorem AZ (v:gM)(l:List It)(w:gQ)(h:Is w v l):
  iP fM 200 #[v] w fun e H=>∃o:gM,e=.returned o/\aQ H w.heap.size o (jV l)/\mO w.heap.size w H:=by
 have M:Hid (mK (mM l) (mM l).length=jV l):=by
  show _=_
  cases B:aX l
  ·rw[FM B,Ki B];rfl
  ·rw[uH B];exact MJ B
 have U:=DS l;go_enter Tryz.func200,Tryz.ntmps200;go_wp2_with fail;refine (tY v l w h).mono ?_;rintro e w1 ⟨o,rfl,a,A⟩;generalize mM l=m at*
 rcases fX a nI with⟨rfl,rfl⟩|⟨g,L,c,rfl,hg,S,J,R,hm,hf⟩
 ·go_wp2_with fail;refine (Dg w1).mono ?_;rintro e Q ⟨rfl,s⟩;go_wp2_with fail;go_ret;refine⟨_,rfl,?_,aG A s⟩;rw[<- M.out];exact oN _ _ _ _ _
 ·have HF:Hid (jJ nQ 3 c m m.length):=hf;clear hf a;go_wp2_with fail;refine (Eg g L c m w1 S J R hm (by omega) HF.out).mono ?_;rintro e Q ⟨c',rfl,s,G,D,I⟩;have O:=(show Hid _ from D);clear D;go_wp2_with fail;go_ret;have T:(mK m m.length).length<=m.length:=(Hg m).length_le;refine⟨_,rfl,?_,I.below A A.size hg⟩;rw[<- M.out];exact yS s O.out nI G (by omega) hm hg
end Go.Proofs.YtbdpcngcbnoioaaGreatDoor
