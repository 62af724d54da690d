import Derived.Test.YtbdpcngcbnoioaaGreatDoorGtX
set_option maxRecDepth 100000
set_option maxHeartbeats 8000000
namespace Go.Proofs.YtbdpcngcbnoioaaGreatDoor
open Go.RowKit
open Go.Proofs.Tryz renaming prog->fD,ntmps236->fH,func236->fV
open Go renaming Value->gY,World->gZ,Builtin->iC,IntKind->jU,Calls->kR
open Go.Builtin renaming zeroCells->kX,clear_->lI
open Go.RowKit renaming Below->lY
open Go.RowKit.Below renaming refl->mF
open _root_.Option renaming none->mJ
theorem F0 {w:gZ}{g i n D:Nat}{c:Array gY}(h:Bk w g c 98)(hs:c.size=D*3)(hi:i<n)(hn:n<=D)(J:Nat):
  ∃F c',(∀H,(lI #[35] H #[.slice (some ⟨g,i*3,none⟩) (n-i) J]).run fD w=.ok (.tuple #[]) F)/\Bk F g c' 98/\c'.size=c.size/\(∀j,j<i*3->c'[j]?=c[j]?)/\Bx g w F:=by
 have s:∀w,(zeroValue 98).run fD w=.ok (.agg #[.int .i64 0,.int .i64 0,.int .i64 0]) w:=fun w=>Tryz.zeroValue98 w;have B:(gY.agg #[.int .i64 0,.int .i64 0,.int .i64 0]).cells=#[.int .i64 0,.int .i64 0,.int .i64 0]:=by simp[gY.cells]
 obtain⟨c',h1,h2,h3,h4⟩:=h.setCells (kX (gY.agg #[.int .i64 0,.int .i64 0,.int .i64 0]).cells (n-i)).toList (i*3);refine⟨_,c',fun H=>?_,h1,h2,h3,h4⟩;have G:(kX (gY.agg #[.int .i64 0,.int .i64 0,.int .i64 0]).cells (n-i)).toList.length=(n-i)*3:=by simp[kX,B]
 have A:=run_storeCells_cells (P:=fD) g (i*3) (kX (gY.agg #[.int .i64 0,.int .i64 0,.int .i64 0]).cells (n-i)).toList 0 w
  (fun j I=>by rw[G]at I;rw[Nat.add_zero,h.cell (Array.getElem?_eq_getElem (show i*3+j<c.size by omega))];rfl) (fun j _=>h.free _)
  (fun v s=>by
   rw[B]at s;simp[kX]at s;obtain⟨a,_,rfl⟩:=s;have:a%3=0\/a%3=1\/a%3=2:=by omega
   rcases this with e|e|e<;>simp[e]<;>rfl)
 simp only[Nat.add_zero]at A;obtain⟨m,hm⟩:∃m,n-i=m+1:=⟨n-i-1,by omega⟩;rw[hm]at A ⊢;simp[lI,run_underlying Tryz.underlying35,s,A]
theorem A0 (g i n a:Nat)(hi:i<n)(hn:n<=a)(u:gZ):(Instr.slice 35 (.slice (some ⟨g,0,none⟩) n a) (some (.int .i64 i)) mJ mJ).run fD u=.ok (.slice (some ⟨g,i*3,none⟩) (n-i) (a-i)) u:=by
 have s:fD.underlying 35=some (.slice (fD.elem 35)):=by kernel_rfl
 have hs:∀u:gZ,(sizeOf (fD.elem 35)).run fD u=.ok 3 u:=fun u=>by kernel_rfl
 rw[run_slice_l (P:=fD) u 35 _ _ _ s .i64 i (by omega) (by omega),hs u];have hne:¬a=i:=by omega
 simp[Result.andThen,sliced,Addr.add,hne];omega
theorem Es (g i n a:Nat)(hi:i<=n)(hn:n<=a)(u:gZ):(Instr.slice 35 (.slice (some ⟨g,0,none⟩) n a) mJ (some (.int .i64 i)) mJ).run fD u=.ok (.slice (some ⟨g,0,none⟩) i a) u:=by
 have s:fD.underlying 35=some (.slice (fD.elem 35)):=by kernel_rfl
 have hs:∀u:gZ,(sizeOf (fD.elem 35)).run fD u=.ok 3 u:=fun u=>by kernel_rfl
 rw[run_slice_h (P:=fD) u 35 _ _ _ s .i64 i (by omega) (by omega),hs u];simp[Result.andThen,sliced,Addr.add]
theorem sU {K V D a g s:Int}{b:Bool}(J:(K==a)=b)(w:gZ):
  kR fD 237 #[iv K V D,iv a g s] w fun e A=>e=.returned (.bool b)/\lY w.heap.size w A:=by
 have H:=(Bk.new (w:=w) #[.int .i64 K,.int .i64 V,.int .i64 D] 98 rfl).alloc (.cells #[.int .i64 a,.int .i64 g,.int .i64 s] 98);have G:=Bk.new (w:=w.alloc (.cells #[.int .i64 K,.int .i64 V,.int .i64 D] 98)) #[.int .i64 a,.int .i64 g,.int .i64 s] 98 rfl;have F:=aG (aG (mF w.heap.size w) (.cells #[.int .i64 K,.int .i64 V,.int .i64 D] 98)) (.cells #[.int .i64 a,.int .i64 g,.int .i64 s] 98);obtain⟨I,_,_⟩:=H.three;obtain⟨B,_,_⟩:=G.three;simp only[gZ.size_alloc]at B;go_enter Tryz.func237,Tryz.ntmps237;go_wp2_with fail;go_ret;exact⟨rfl,F⟩
theorem Cm (w:gZ):kR fD 236 #[.slice none 0 0,.func (.func 237) #[] #[]] w fun e a=>e=.returned (.slice none 0 0)/\lY w.heap.size w a:=by
 go_enter fV,fH;go_wp2_with fail;go_ret;exact⟨rfl,mF _ _⟩
theorem Bk.df {w:gZ}{g:Nat}{c:Array gY}{t:TypeId}(h:Bk w g c t)(i:Nat)(x y z:gY):
  Bk (((w.setCell ⟨g,i,none⟩ x).setCell ⟨g,i+1,none⟩ y).setCell ⟨g,i+2,none⟩ z) g (((c.setIfInBounds i x).setIfInBounds (i+1) y).setIfInBounds (i+2) z) t:=((h.set i x).set (i+1) y).set (i+2) z
theorem Ek (g s:Nat)(c:Array gY)(l:List It)(w:gZ)(h:Bk w g c 98)(hs:c.size=s*3)(hc:l.length<=s)(hm:s<=maxLen)(hn:l.length<=2097152)(x2:j6 rJ 3 c l l.length):
  kR fD 236 #[.slice (some ⟨g,0,none⟩) l.length s,.func (.func 237) #[] #[]] w fun e w'=>
   ∃c':Array gY,e=.returned (.slice (some ⟨g,0,none⟩) (lL l l.length).length s)/\Bk w' g c' 98/\c'.size=s*3/\j6 rJ 3 c' (lL l l.length) (lL l l.length).length/\Bx g w w':=by
 have HF:Hid (j6 rJ 3 c l l.length):=x2;have HS:Hid (c.size=s*3):=hs;have HM:Hid (s<=maxLen):=hm;unfold maxLen at hm;clear x2
 by_cases h2:l.length<2
 ·have e:Hid (lL l l.length=l):=by
   show _=_
   rw[BX (Nat.le_refl _) (fun j hj=>Bo (by omega)),List.take_length]
  have ih:((l.length:Int)<2):=by omega
  go_enter fV,fH;go_wp2_with fail;go_ret;rw[e.out];exact⟨c,rfl,h,HS.out,HF.out,Bx.refl _ _⟩
 ·have ih:¬((l.length:Int)<2):=by omega
  go_enter fV,fH;go_wp2_with fail
  go_loopw [5] (fun b wr=>∃k:Nat,1<=k/\k<=l.length/\b=.int .i64 k/\(∀j,j<k->nT l j=true)/\lY w.heap.size w wr) (fun b _=>l.length-(intOf b).toNat)
  case atStart=>exact⟨1,by omega,by omega,rfl,fun j hj=>Bo hj,mF _ _⟩
  case round=>
   obtain⟨k,a8,hk,rfl,x8,hb⟩:=hrel;have HA:Hid (∀j,j<k->nT l j=true):=x8;clear x8;have y8:=h.keep hb
   by_cases x0:k<l.length
   ·have ik:((k:Int)<(l.length:Int)):=by omega
    have a2:jU.i64.wrap ((k:Int)-1)=((k-1:Nat):Int):=by rw[jU.wrap_i64]<;>omega
    have a3:(((k-1:Nat):Int)<(l.length:Int)):=by omega
    obtain⟨⟨⟨K,V⟩,D⟩,J⟩:∃r,gI l k=r:=⟨_,rfl⟩;obtain⟨⟨⟨K',V'⟩,D'⟩,B⟩:∃r,gI l (k-1)=r:=⟨_,rfl⟩;have I:Hid ((gI l k).1.1=K/\(gI l (k-1)).1.1=K'):=⟨by rw[J],by rw[B]⟩;have H:Hid (∀W,lY w.heap.size w W->(fun W=>W.cell? ⟨g,k*3,none⟩=some (.int .i64 K)/\W.cell? ⟨g,k*3+1,none⟩=some (.int .i64 V)/\W.cell? ⟨g,k*3+2,none⟩=some (.int .i64 D)/\W.cell? ⟨g,(k-1)*3,none⟩=some (.int .i64 K')/\W.cell? ⟨g,(k-1)*3+1,none⟩=some (.int .i64 V')/\W.cell? ⟨g,(k-1)*3+2,none⟩=some (.int .i64 D')) W):=fun W hW=>by
     have G:=h.keep hW;have O:=HF.out k _ x0 (pI x0);have N:=HF.out (k-1) _ (by omega) (pI (show k-1<l.length by omega));rw[J]at O;rw[B]at N;exact⟨G.cell (O 0 (by omega)),G.cell (O 1 (by omega)),G.cell (O 2 (by omega)),G.cell (N 0 (by omega)),G.cell (N 1 (by omega)),G.cell (N 2 (by omega))⟩
    have x4:=hb.drew;clear J B;obtain⟨c0,c1,c2,c3,c4,c5⟩:=H.out _ hb;cases hne:(K==K')
    ·have HN:Hid (∀j,j<k+1->nT l j=true):=fun j hj=>by
      by_cases e:j=k
      ·subst e;exact Bh fun e=>by rw[I.out.1,I.out.2]at e;rw[e]at hne;simp at hne
      ·exact HA.out j (by omega)
     clear HA I;go_wp2_with fail
     go_region_held3 (fun W=>W.cell? ⟨g,k*3,none⟩=some (.int .i64 K)/\W.cell? ⟨g,k*3+1,none⟩=some (.int .i64 V)/\W.cell? ⟨g,k*3+2,none⟩=some (.int .i64 D)/\W.cell? ⟨g,(k-1)*3,none⟩=some (.int .i64 K')/\W.cell? ⟨g,(k-1)*3+1,none⟩=some (.int .i64 V')/\W.cell? ⟨g,(k-1)*3+2,none⟩=some (.int .i64 D'))
      (first|exact H.out _ x4|exact H.out _ Q)
      (first
       | (go_at_call 237;with_reducible refine (sU hne _).mono ?_;rintro e wa ⟨rfl,x7⟩;have Q:lY w.heap.size w wa:=aH x4 x7))
     go_wp2_with fail;go_roundw
     case rel=>exact⟨k+1,by omega,by omega,by go_num,HN.out,Q⟩
     case measure=>simp[intOf];omega
    ·have a6:=A0 g k l.length s x0 hc;have HI:Hid (uA l k (k+1) c):=uA.start x0 (JX (by omega) (by rw[I.out.1,I.out.2];simpa using hne)) HA.out HF.out;clear HA I;go_wp2_with fail
     go_region_held3 (fun W=>W.cell? ⟨g,k*3,none⟩=some (.int .i64 K)/\W.cell? ⟨g,k*3+1,none⟩=some (.int .i64 V)/\W.cell? ⟨g,k*3+2,none⟩=some (.int .i64 D)/\W.cell? ⟨g,(k-1)*3,none⟩=some (.int .i64 K')/\W.cell? ⟨g,(k-1)*3+1,none⟩=some (.int .i64 V')/\W.cell? ⟨g,(k-1)*3+2,none⟩=some (.int .i64 D'))
      (first|exact H.out _ x4|exact H.out _ Q)
      (first
       | (go_at_call 237;with_reducible refine (sU hne _).mono ?_;rintro e wa ⟨rfl,x7⟩;have Q:lY w.heap.size w wa:=aH x4 x7))
     have x6:=h.keep Q;go_wp2_with fail
     go_loopw [5,7] (fun a b wr=>∃(i q:Nat)(c':Array gY),a=.int .i64 i/\b=.int .i64 q/\1<=q/\k+q<=l.length/\Hid (uA l i (k+q) c')/\Bk wr g c' 98/\c'.size=s*3/\Bx g w wr) (fun _ b _=>l.length-(intOf b).toNat)
     case atStart=>exact⟨k,1,c,rfl,rfl,by omega,by omega,HI,x6,HS.out,Bx.aA Q⟩
     case round=>
      clear c0 c1 c2 c3 c4 c5 y8 x6 H;obtain⟨i,q,c',rfl,rfl,a7,hq,L,x1,h9,x5⟩:=hrel;have b0:=L.out.lt
      by_cases S:k+q<l.length
      ·have u0:((q:Int)<(l.length:Int)-(k:Int)):=by omega
       have w7:jU.i64.wrap ((q:Int)-1)=((q-1:Nat):Int):=by rw[jU.wrap_i64]<;>omega
       have a1:(((q-1:Nat):Int)<(l.length:Int)-(k:Int)):=by omega
       have a0:((q:Int)-1<(l.length:Int)-(k:Int)):=by omega
       have w9:(((q-1:Nat):Int)<((l.length-k:Nat):Int)):=by omega
       have w8:q-1<l.length-k:=by omega
       obtain⟨⟨⟨U,X⟩,Y⟩,J⟩:∃r,gI l (k+q)=r:=⟨_,rfl⟩;obtain⟨⟨⟨U',X'⟩,Y'⟩,B⟩:∃r,gI l (k+q-1)=r:=⟨_,rfl⟩;have HG:Hid (gI l (k+q)=((U,X),Y)):=J;have I:Hid ((gI l (k+q)).1.1=U/\(gI l (k+q-1)).1.1=U'):=⟨by rw[J],by rw[B]⟩;have H:Hid (∀W,lY wr.heap.size wr W->(fun W=>W.cell? ⟨g,k*3+q*3,none⟩=some (.int .i64 U)/\W.cell? ⟨g,k*3+q*3+1,none⟩=some (.int .i64 X)/\W.cell? ⟨g,k*3+q*3+2,none⟩=some (.int .i64 Y)/\W.cell? ⟨g,k*3+(q-1)*3,none⟩=some (.int .i64 U')/\W.cell? ⟨g,k*3+(q-1)*3+1,none⟩=some (.int .i64 X')/\W.cell? ⟨g,k*3+(q-1)*3+2,none⟩=some (.int .i64 Y')) W):=fun W hW=>by
        have G:=x1.keep hW;have O:=L.out.high (k+q) (by omega) S;have N:=L.out.high (k+q-1) (by omega) (by omega);rw[J,show (k+q)*3=k*3+q*3 by omega]at O;rw[B,show (k+q-1)*3=k*3+(q-1)*3 by omega]at N;exact⟨G.cell (O 0 (by omega)),G.cell (O 1 (by omega)),G.cell (O 2 (by omega)),G.cell (N 0 (by omega)),G.cell (N 1 (by omega)),G.cell (N 2 (by omega))⟩
       have R:lY wr.heap.size wr wr.drew:=(mF _ _).drew;clear J B;obtain⟨d0,d1,d2,d3,d4,d5⟩:=H.out _ (mF _ _);cases M:(U==U')
       ·have HN:Hid (uA l (i+1) (k+(q+1)) (((c'.setIfInBounds (i*3) (.int .i64 U)).setIfInBounds (i*3+1) (.int .i64 X)).setIfInBounds (i*3+2) (.int .i64 Y))):=
         L.out.keep S (by omega) (Bh fun e=>by rw[I.out.1,I.out.2]at e;rw[e]at M;simp at M) HG.out
        clear L I;go_wp2_with fail
        go_region_held3 (fun W=>W.cell? ⟨g,k*3+q*3,none⟩=some (.int .i64 U)/\W.cell? ⟨g,k*3+q*3+1,none⟩=some (.int .i64 X)/\W.cell? ⟨g,k*3+q*3+2,none⟩=some (.int .i64 Y)/\W.cell? ⟨g,k*3+(q-1)*3,none⟩=some (.int .i64 U')/\W.cell? ⟨g,k*3+(q-1)*3+1,none⟩=some (.int .i64 X')/\W.cell? ⟨g,k*3+(q-1)*3+2,none⟩=some (.int .i64 Y'))
         (first|exact H.out _ R|exact H.out _ A)
         (first
          | (go_at_call 237;with_reducible refine (sU M _).mono ?_;rintro e Z ⟨rfl,T⟩;have A:lY wr.heap.size wr Z:=aH R T))
        have F:=x1.keep A;clear d0 d1 d2 d3 d4 d5;obtain⟨d0,d1,d2,-,-,-⟩:=H.out _ A;obtain⟨y0,q0⟩:=uF F (i:=i*3) (by omega);obtain⟨y1,q1⟩:=uF F (i:=i*3+1) (by omega);obtain⟨y2,q2⟩:=uF F (i:=i*3+2) (by omega);have f0:=F.free (i*3);have O:=F.free (i*3+1);have N:=F.free (i*3+2);have u4:Bx g w Z:=x5.trans (Bx.aA A);have a4:((i:Int)<(l.length:Int)):=by omega
        go_wp2_with fail;go_roundw
        case rel=>
         exact⟨i+1,q+1,_,by go_num,by go_num,by omega,by omega,HN,F.df (i*3) _ _ _,by simpa using h9,((u4.ae rfl _).ae rfl _).ae rfl _⟩
        case measure=>simp[intOf];omega
       ·have HN:Hid (uA l i (k+(q+1)) c'):=L.out.skip S (JX (by omega) (by rw[I.out.1,I.out.2];simpa using M));clear L I;go_wp2_with fail
        go_region_held3 (fun W=>W.cell? ⟨g,k*3+q*3,none⟩=some (.int .i64 U)/\W.cell? ⟨g,k*3+q*3+1,none⟩=some (.int .i64 X)/\W.cell? ⟨g,k*3+q*3+2,none⟩=some (.int .i64 Y)/\W.cell? ⟨g,k*3+(q-1)*3,none⟩=some (.int .i64 U')/\W.cell? ⟨g,k*3+(q-1)*3+1,none⟩=some (.int .i64 X')/\W.cell? ⟨g,k*3+(q-1)*3+2,none⟩=some (.int .i64 Y'))
         (first|exact H.out _ R|exact H.out _ A)
         (first
          | (go_at_call 237;with_reducible refine (sU M _).mono ?_;rintro e Z ⟨rfl,T⟩;have A:lY wr.heap.size wr Z:=aH R T))
        have F:=x1.keep A;go_wp2_with fail;go_roundw
        case rel=>exact⟨i,q+1,c',rfl,by go_num,by omega,by omega,HN,F,h9,x5.trans (Bx.aA A)⟩
        case measure=>simp[intOf];omega
      ·have hend:k+q=l.length:=by omega
       obtain⟨w3,c3,b1,b3,s3,l3,x3⟩:=F0 (n:=l.length) x1 h9 (i:=i) (by omega) hc (s-i);have v5:=A0 g i l.length s (by omega) hc;have a5:=Es g i l.length s (by omega) hc;have u0:¬((q:Int)<(l.length:Int)-(k:Int)):=by omega
       have L3:=(show Hid _ from l3);clear l3;go_wp2_with fail;go_ret;have hI:=L.out;rw[hend]at hI;have e2:=hI.len;refine⟨by rw[e2];rfl,c3,b3,by rw[s3];exact h9,?_,x5.trans x3⟩;rw[e2];intro z x hz hx y hy;rw[L3.out _ (by omega)];exact hI.low z x hz hx y hy
   ·obtain rfl:k=l.length:=by omega
    have ik:¬((l.length:Int)<(l.length:Int)):=by omega
    have e:Hid (lL l l.length=l):=by
     show _=_
     rw[BX (Nat.le_refl _) HA.out,List.take_length]
    go_wp2_with fail;go_ret;rw[e.out];exact⟨rfl,c,y8,HS.out,HF.out,Bx.aA hb⟩
theorem AB (v:gY)(l:List It)(w:gZ)(h:Is w v l):
  kR fD 200 #[v] w fun e G=>∃o:gY,e=.returned o/\bZ G w.heap.size o (jE l)/\lY w.heap.size w G:=by
 have L:Hid (lL (lO l) (lO l).length=jE l):=by
  show _=_
  cases B:d6 l
  ·rw[DW B,Ic B];rfl
  ·rw[sM B];exact Kz B
 have S:=IK l;go_enter Tryz.func200,Tryz.ntmps200;go_wp2_with fail;refine (tJ v l w h).mono ?_;rintro e w1 ⟨o,rfl,a,A⟩;generalize lO l=m at*
 rcases gE a yH with⟨rfl,rfl⟩|⟨g,J,c,rfl,hg,Q,I,O,hm,hf⟩
 ·go_wp2_with fail;refine (Cm w1).mono ?_;rintro e N ⟨rfl,s⟩;go_wp2_with fail;go_ret;refine⟨_,rfl,?_,aH A s⟩;rw[<- L.out];exact oN _ _ _ _ _
 ·have HF:Hid (j6 rJ 3 c m m.length):=hf;clear hf a;go_wp2_with fail;refine (Ek g J c m w1 Q I O hm (by omega) HF.out).mono ?_;rintro e N ⟨c',rfl,s,F,D,H⟩;have M:=(show Hid _ from D);clear D;go_wp2_with fail;go_ret;have R:(lL m m.length).length<=m.length:=(Fx m).length_le;refine⟨_,rfl,?_,H.below A A.size hg⟩;rw[<- L.out];exact xM s M.out yH F (by omega) hm hg
end Go.Proofs.YtbdpcngcbnoioaaGreatDoor
