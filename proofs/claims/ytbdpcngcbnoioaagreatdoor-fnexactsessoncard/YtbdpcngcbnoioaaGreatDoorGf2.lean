import Derived.Test.YtbdpcngcbnoioaaGreatDoorGtX
import Derived.Test.YtbdpcngcbnoioaaGreatDoorGf1
set_option maxRecDepth 100000
set_option maxHeartbeats 8000000
namespace Go.Proofs.YtbdpcngcbnoioaaGreatDoor
open Go.RowKit
theorem clear_items {w:World} {g i n cap:Nat} {c:Array Value} (h:Bk w g c 98) (hs:c.size=cap*3) (hi:i<n) (hn:n<=cap) (c0:Nat) :
  ∃ w' c',(∀ ty,(Builtin.clear_ #[35] ty #[.slice (some ⟨g,i*3,none⟩) (n-i) c0]).run Tryz.prog w= .ok (.tuple #[]) w')/\Bk w' g c' 98/\c'.size=c.size/\(∀ j,j<i*3->c'[j]?=c[j]?)/\Bx g w w':=by
 have hv:∀ w,(zeroValue 98).run Tryz.prog w= .ok (.agg #[.int .i64 0, .int .i64 0, .int .i64 0]) w:=fun w=>Tryz.zeroValue98 w;have hcs:(Value.agg #[.int .i64 0, .int .i64 0, .int .i64 0]).cells=#[.int .i64 0, .int .i64 0, .int .i64 0]:=by simp [Value.cells]
 obtain ⟨c',h1,h2,h3,h4⟩:=h.setCells (Builtin.zeroCells (Value.agg #[.int .i64 0, .int .i64 0, .int .i64 0]).cells (n-i)).toList (i*3);refine ⟨_,c',fun ty=>?_,h1,h2,h3,h4⟩;have hlen:(Builtin.zeroCells (Value.agg #[.int .i64 0, .int .i64 0, .int .i64 0]).cells (n-i)).toList.length=(n-i)*3:=by simp [Builtin.zeroCells,hcs]
 have hst:=run_storeCells_cells (P:=Tryz.prog) g (i*3) (Builtin.zeroCells (Value.agg #[.int .i64 0, .int .i64 0, .int .i64 0]).cells (n-i)).toList 0 w
  (fun j hj=>by rw [hlen] at hj;rw [Nat.add_zero,h.cell (Array.getElem?_eq_getElem (show i*3+j<c.size by omega))];rfl) (fun j _=>h.free _)
  (fun v hv=>by
   rw [hcs] at hv;simp [Builtin.zeroCells] at hv;obtain ⟨a,_,rfl⟩:=hv;have:a%3=0\/a%3=1\/a%3=2:=by omega
   rcases this with e|e|e<;>simp [e]<;>rfl)
 simp only [Nat.add_zero] at hst;obtain ⟨m,hm⟩:∃ m,n-i=m+1:=⟨n-i-1,by omega⟩;rw [hm] at hst ⊢;simp [Builtin.clear_,run_underlying Tryz.underlying35,hv,hst]
theorem slice_fromI (g i n cap:Nat) (hi:i<n) (hn:n<=cap) (u:World):(Instr.slice 35 (.slice (some ⟨g,0,none⟩) n cap) (some (.int .i64 i)) Option.none Option.none).run Tryz.prog u= .ok (.slice (some ⟨g,i*3,none⟩) (n-i) (cap-i)) u:=by
 have ht:Tryz.prog.underlying 35=some (.slice (Tryz.prog.elem 35)):=by kernel_rfl
 have hs:∀ u:World,(sizeOf (Tryz.prog.elem 35)).run Tryz.prog u= .ok 3 u:=fun u=>by kernel_rfl
 rw [run_slice_l (P:=Tryz.prog) u 35 _ _ _ ht .i64 i (by omega) (by omega),hs u];have hne:¬ cap=i:=by omega
 simp [Result.andThen,sliced,Addr.add,hne];omega
theorem slice_uptoI (g i n cap:Nat) (hi:i<=n) (hn:n<=cap) (u:World):(Instr.slice 35 (.slice (some ⟨g,0,none⟩) n cap) Option.none (some (.int .i64 i)) Option.none).run Tryz.prog u= .ok (.slice (some ⟨g,0,none⟩) i cap) u:=by
 have ht:Tryz.prog.underlying 35=some (.slice (Tryz.prog.elem 35)):=by kernel_rfl
 have hs:∀ u:World,(sizeOf (Tryz.prog.elem 35)).run Tryz.prog u= .ok 3 u:=fun u=>by kernel_rfl
 rw [run_slice_h (P:=Tryz.prog) u 35 _ _ _ ht .i64 i (by omega) (by omega),hs u];simp [Result.andThen,sliced,Addr.add]
theorem keyEq_any {K V D K' V' D':Int} {b:Bool} (hK:(K==K')=b) (w:World) :
  Calls Tryz.prog 237 #[iv K V D,iv K' V' D'] w fun e w'=>e= .returned (.bool b)/\Below w.heap.size w w':=by
 have b1:=(Bk.new (w:=w) #[.int .i64 K, .int .i64 V, .int .i64 D] 98 rfl).alloc (.cells #[.int .i64 K', .int .i64 V', .int .i64 D'] 98);have b2:=Bk.new (w:=w.alloc (.cells #[.int .i64 K, .int .i64 V, .int .i64 D] 98)) #[.int .i64 K', .int .i64 V', .int .i64 D'] 98 rfl;have hb:=bAz (bAz (Below.refl w.heap.size w) (.cells #[.int .i64 K, .int .i64 V, .int .i64 D] 98)) (.cells #[.int .i64 K', .int .i64 V', .int .i64 D'] 98);obtain ⟨p0,_,_⟩:=b1.three;obtain ⟨q0,_,_⟩:=b2.three;simp only [World.size_alloc] at q0;go_enter Tryz.func237,Tryz.ntmps237;go_wp2_with fail;go_ret;exact ⟨rfl,hb⟩
theorem compactNI_any (w:World):Calls Tryz.prog 236 #[.slice none 0 0, .func (.func 237) #[] #[]] w fun e w'=>e= .returned (.slice none 0 0)/\Below w.heap.size w w':=by
 go_enter Tryz.func236,Tryz.ntmps236;go_wp2_with fail;go_ret;exact ⟨rfl,Below.refl _ _⟩
theorem Bk.setAt3 {w:World} {g:Nat} {c:Array Value} {t:TypeId} (h:Bk w g c t) (i:Nat) (x y z:Value) :
  Bk (((w.setCell ⟨g,i,none⟩ x).setCell ⟨g,i+1,none⟩ y).setCell ⟨g,i+2,none⟩ z) g (((c.setIfInBounds i x).setIfInBounds (i+1) y).setIfInBounds (i+2) z) t:=((h.set i x).set (i+1) y).set (i+2) z
theorem compactI_any (g cap:Nat) (c:Array Value) (l:List It) (w:World) (h:Bk w g c 98) (hs:c.size=cap*3) (hc:l.length<=cap) (hm:cap<=maxLen) (hn:l.length<=2097152) (hfill:FillK itC 3 c l l.length) :
  Calls Tryz.prog 236 #[.slice (some ⟨g,0,none⟩) l.length cap, .func (.func 237) #[] #[]] w fun e w' =>
   ∃ c':Array Value,e= .returned (.slice (some ⟨g,0,none⟩) (cpI l l.length).length cap)/\Bk w' g c' 98/\c'.size=cap*3/\FillK itC 3 c' (cpI l l.length) (cpI l l.length).length/\Bx g w w':=by
 have HF:Hid (FillK itC 3 c l l.length):=hfill;have HS:Hid (c.size=cap*3):=hs;have HM:Hid (cap<=maxLen):=hm;unfold maxLen at hm;clear hfill
 by_cases h2:l.length<2
 ·have e:Hid (cpI l l.length=l):=by
   show _=_
   rw [cpI_all (Nat.le_refl _) (fun j hj=>kpI_one (by omega)),List.take_length]
  have ih:((l.length:Int)<2):=by omega
  go_enter Tryz.func236,Tryz.ntmps236;go_wp2_with fail;go_ret;rw [e.out];exact ⟨c,rfl,h,HS.out,HF.out,Bx.refl _ _⟩
 ·have ih:¬ ((l.length:Int)<2):=by omega
  go_enter Tryz.func236,Tryz.ntmps236;go_wp2_with fail
  go_loopw [5] (fun b wr=>∃ k:Nat,1<=k/\k<=l.length/\b= .int .i64 k/\(∀ j,j<k->kpI l j=true)/\Below w.heap.size w wr) (fun b _=>l.length-(intOf b).toNat)
  case atStart=>exact ⟨1,by omega,by omega,rfl,fun j hj=>kpI_one hj,Below.refl _ _⟩
  case round =>
   obtain ⟨k,hk1,hk,rfl,hall,hb⟩:=hrel;have HA:Hid (∀ j,j<k->kpI l j=true):=hall;clear hall;have hbk:=h.keep hb
   by_cases hlt:k<l.length
   ·have ik:((k:Int)<(l.length:Int)):=by omega
    have ikw:IntKind.i64.wrap ((k:Int)-1)=((k-1:Nat):Int):=by rw [IntKind.wrap_i64]<;>omega
    have ik1:(((k-1:Nat):Int)<(l.length:Int)):=by omega
    obtain ⟨⟨⟨K,V⟩,D⟩,hgk⟩:∃ r,gI l k=r:=⟨_,rfl⟩;obtain ⟨⟨⟨K',V'⟩,D'⟩,hgk'⟩:∃ r,gI l (k-1)=r:=⟨_,rfl⟩;have EX:Hid ((gI l k).1.1=K/\(gI l (k-1)).1.1=K'):=⟨by rw [hgk],by rw [hgk']⟩;have HX:Hid (∀ W,Below w.heap.size w W->(fun W=>W.cell? ⟨g,k*3,none⟩=some (.int .i64 K)/\W.cell? ⟨g,k*3+1,none⟩=some (.int .i64 V)/\W.cell? ⟨g,k*3+2,none⟩=some (.int .i64 D)/\W.cell? ⟨g,(k-1)*3,none⟩=some (.int .i64 K')/\W.cell? ⟨g,(k-1)*3+1,none⟩=some (.int .i64 V')/\W.cell? ⟨g,(k-1)*3+2,none⟩=some (.int .i64 D')) W):=fun W hW=>by
     have hB:=h.keep hW;have f1:=HF.out k _ hlt (gI_at hlt);have f2:=HF.out (k-1) _ (by omega) (gI_at (show k-1<l.length by omega));rw [hgk] at f1;rw [hgk'] at f2;exact ⟨hB.cell (f1 0 (by omega)),hB.cell (f1 1 (by omega)),hB.cell (f1 2 (by omega)),hB.cell (f2 0 (by omega)),hB.cell (f2 1 (by omega)),hB.cell (f2 2 (by omega))⟩
    have hbD:=hb.drew;clear hgk hgk';obtain ⟨c0,c1,c2,c3,c4,c5⟩:=HX.out _ hb;cases hne:(K==K')
    ·have HN:Hid (∀ j,j<k+1->kpI l j=true):=fun j hj=>by
      by_cases e:j=k
      ·subst e;exact kpI_yes fun e=>by rw [EX.out.1,EX.out.2] at e;rw [e] at hne;simp at hne
      ·exact HA.out j (by omega)
     clear HA EX;go_wp2_with fail
     go_region_held3 (fun W=>W.cell? ⟨g,k*3,none⟩=some (.int .i64 K)/\W.cell? ⟨g,k*3+1,none⟩=some (.int .i64 V)/\W.cell? ⟨g,k*3+2,none⟩=some (.int .i64 D)/\W.cell? ⟨g,(k-1)*3,none⟩=some (.int .i64 K')/\W.cell? ⟨g,(k-1)*3+1,none⟩=some (.int .i64 V')/\W.cell? ⟨g,(k-1)*3+2,none⟩=some (.int .i64 D'))
      (first|exact HX.out _ hbD|exact HX.out _ hba)
      (first
       | (go_at_call 237;with_reducible refine (keyEq_any hne _).mono ?_;rintro e wa ⟨rfl,hbc⟩;have hba:Below w.heap.size w wa:=bSz hbD hbc))
     go_wp2_with fail;go_roundw
     case rel=>exact ⟨k+1,by omega,by omega,by go_num,HN.out,hba⟩
     case measure=>simp [intOf];omega
    ·have hsf:=slice_fromI g k l.length cap hlt hc;have HI:Hid (CpI l k (k+1) c):=CpI.start hlt (kpI_no (by omega) (by rw [EX.out.1,EX.out.2];simpa using hne)) HA.out HF.out;clear HA EX;go_wp2_with fail
     go_region_held3 (fun W=>W.cell? ⟨g,k*3,none⟩=some (.int .i64 K)/\W.cell? ⟨g,k*3+1,none⟩=some (.int .i64 V)/\W.cell? ⟨g,k*3+2,none⟩=some (.int .i64 D)/\W.cell? ⟨g,(k-1)*3,none⟩=some (.int .i64 K')/\W.cell? ⟨g,(k-1)*3+1,none⟩=some (.int .i64 V')/\W.cell? ⟨g,(k-1)*3+2,none⟩=some (.int .i64 D'))
      (first|exact HX.out _ hbD|exact HX.out _ hba)
      (first
       | (go_at_call 237;with_reducible refine (keyEq_any hne _).mono ?_;rintro e wa ⟨rfl,hbc⟩;have hba:Below w.heap.size w wa:=bSz hbD hbc))
     have hbka:=h.keep hba;go_wp2_with fail
     go_loopw [5,7] (fun a b wr=>∃ (i q:Nat) (c':Array Value),a= .int .i64 i/\b= .int .i64 q/\1<=q/\k+q<=l.length/\Hid (CpI l i (k+q) c')/\Bk wr g c' 98/\c'.size=cap*3/\Bx g w wr) (fun _ b _=>l.length-(intOf b).toNat)
     case atStart=>exact ⟨k,1,c,rfl,rfl,by omega,by omega,HI,hbka,HS.out,Bx.of_below hba⟩
     case round =>
      clear c0 c1 c2 c3 c4 c5 hbk hbka HX;obtain ⟨i,q,c',rfl,rfl,hq1,hq,HI2,hk2,hs2,hx2⟩:=hrel;have hij:=HI2.out.lt
      by_cases hlt2:k+q<l.length
      ·have ik2:((q:Int)<(l.length:Int)-(k:Int)):=by omega
       have iqw:IntKind.i64.wrap ((q:Int)-1)=((q-1:Nat):Int):=by rw [IntKind.wrap_i64]<;>omega
       have iq1:(((q-1:Nat):Int)<(l.length:Int)-(k:Int)):=by omega
       have iq2:((q:Int)-1<(l.length:Int)-(k:Int)):=by omega
       have iq3:(((q-1:Nat):Int)<((l.length-k:Nat):Int)):=by omega
       have iq4:q-1<l.length-k:=by omega
       obtain ⟨⟨⟨U,X⟩,Y⟩,hgk⟩:∃ r,gI l (k+q)=r:=⟨_,rfl⟩;obtain ⟨⟨⟨U',X'⟩,Y'⟩,hgk'⟩:∃ r,gI l (k+q-1)=r:=⟨_,rfl⟩;have HG:Hid (gI l (k+q)=((U,X),Y)):=hgk;have EX:Hid ((gI l (k+q)).1.1=U/\(gI l (k+q-1)).1.1=U'):=⟨by rw [hgk],by rw [hgk']⟩;have HX:Hid (∀ W,Below wr.heap.size wr W->(fun W=>W.cell? ⟨g,k*3+q*3,none⟩=some (.int .i64 U)/\W.cell? ⟨g,k*3+q*3+1,none⟩=some (.int .i64 X)/\W.cell? ⟨g,k*3+q*3+2,none⟩=some (.int .i64 Y)/\W.cell? ⟨g,k*3+(q-1)*3,none⟩=some (.int .i64 U')/\W.cell? ⟨g,k*3+(q-1)*3+1,none⟩=some (.int .i64 X')/\W.cell? ⟨g,k*3+(q-1)*3+2,none⟩=some (.int .i64 Y')) W):=fun W hW=>by
        have hB:=hk2.keep hW;have f1:=HI2.out.high (k+q) (by omega) hlt2;have f2:=HI2.out.high (k+q-1) (by omega) (by omega);rw [hgk,show (k+q)*3=k*3+q*3 by omega] at f1;rw [hgk',show (k+q-1)*3=k*3+(q-1)*3 by omega] at f2;exact ⟨hB.cell (f1 0 (by omega)),hB.cell (f1 1 (by omega)),hB.cell (f1 2 (by omega)),hB.cell (f2 0 (by omega)),hB.cell (f2 1 (by omega)),hB.cell (f2 2 (by omega))⟩
       have hbD2:Below wr.heap.size wr wr.drew:=(Below.refl _ _).drew;clear hgk hgk';obtain ⟨d0,d1,d2,d3,d4,d5⟩:=HX.out _ (Below.refl _ _);cases hne2:(U==U')
       ·have HN:Hid (CpI l (i+1) (k+(q+1)) (((c'.setIfInBounds (i*3) (.int .i64 U)).setIfInBounds (i*3+1) (.int .i64 X)).setIfInBounds (i*3+2) (.int .i64 Y))) :=
         HI2.out.keep hlt2 (by omega) (kpI_yes fun e=>by rw [EX.out.1,EX.out.2] at e;rw [e] at hne2;simp at hne2) HG.out
        clear HI2 EX;go_wp2_with fail
        go_region_held3 (fun W=>W.cell? ⟨g,k*3+q*3,none⟩=some (.int .i64 U)/\W.cell? ⟨g,k*3+q*3+1,none⟩=some (.int .i64 X)/\W.cell? ⟨g,k*3+q*3+2,none⟩=some (.int .i64 Y)/\W.cell? ⟨g,k*3+(q-1)*3,none⟩=some (.int .i64 U')/\W.cell? ⟨g,k*3+(q-1)*3+1,none⟩=some (.int .i64 X')/\W.cell? ⟨g,k*3+(q-1)*3+2,none⟩=some (.int .i64 Y'))
         (first|exact HX.out _ hbD2|exact HX.out _ hba2)
         (first
          | (go_at_call 237;with_reducible refine (keyEq_any hne2 _).mono ?_;rintro e wa2 ⟨rfl,hbc2⟩;have hba2:Below wr.heap.size wr wa2:=bSz hbD2 hbc2))
        have hk3:=hk2.keep hba2;clear d0 d1 d2 d3 d4 d5;obtain ⟨d0,d1,d2,-,-,-⟩:=HX.out _ hba2;obtain ⟨y0,q0⟩:=cell_bk hk3 (i:=i*3) (by omega);obtain ⟨y1,q1⟩:=cell_bk hk3 (i:=i*3+1) (by omega);obtain ⟨y2,q2⟩:=cell_bk hk3 (i:=i*3+2) (by omega);have f0:=hk3.free (i*3);have f1:=hk3.free (i*3+1);have f2:=hk3.free (i*3+2);have hx3:Bx g w wa2:=hx2.trans (Bx.of_below hba2);have iil:((i:Int)<(l.length:Int)):=by omega
        go_wp2_with fail;go_roundw
        case rel =>
         exact ⟨i+1,q+1,_,by go_num,by go_num,by omega,by omega,HN,hk3.setAt3 (i*3) _ _ _,by simpa using hs2,((hx3.setG rfl _).setG rfl _).setG rfl _⟩
        case measure=>simp [intOf];omega
       ·have HN:Hid (CpI l i (k+(q+1)) c'):=HI2.out.skip hlt2 (kpI_no (by omega) (by rw [EX.out.1,EX.out.2];simpa using hne2));clear HI2 EX;go_wp2_with fail
        go_region_held3 (fun W=>W.cell? ⟨g,k*3+q*3,none⟩=some (.int .i64 U)/\W.cell? ⟨g,k*3+q*3+1,none⟩=some (.int .i64 X)/\W.cell? ⟨g,k*3+q*3+2,none⟩=some (.int .i64 Y)/\W.cell? ⟨g,k*3+(q-1)*3,none⟩=some (.int .i64 U')/\W.cell? ⟨g,k*3+(q-1)*3+1,none⟩=some (.int .i64 X')/\W.cell? ⟨g,k*3+(q-1)*3+2,none⟩=some (.int .i64 Y'))
         (first|exact HX.out _ hbD2|exact HX.out _ hba2)
         (first
          | (go_at_call 237;with_reducible refine (keyEq_any hne2 _).mono ?_;rintro e wa2 ⟨rfl,hbc2⟩;have hba2:Below wr.heap.size wr wa2:=bSz hbD2 hbc2))
        have hk3:=hk2.keep hba2;go_wp2_with fail;go_roundw
        case rel=>exact ⟨i,q+1,c',rfl,by go_num,by omega,by omega,HN,hk3,hs2,hx2.trans (Bx.of_below hba2)⟩
        case measure=>simp [intOf];omega
      ·have hend:k+q=l.length:=by omega
       obtain ⟨w3,c3,hcl,b3,s3,l3,x3⟩:=clear_items (n:=l.length) hk2 hs2 (i:=i) (by omega) hc (cap-i);have hsf2:=slice_fromI g i l.length cap (by omega) hc;have hsu:=slice_uptoI g i l.length cap (by omega) hc;have ik2:¬ ((q:Int)<(l.length:Int)-(k:Int)):=by omega
       have L3:=(show Hid _ from l3);clear l3;go_wp2_with fail;go_ret;have hI:=HI2.out;rw [hend] at hI;have e2:=hI.len;refine ⟨by rw [e2];rfl,c3,b3,by rw [s3];exact hs2,?_,hx2.trans x3⟩;rw [e2];intro z x hz hx y hy;rw [L3.out _ (by omega)];exact hI.low z x hz hx y hy
   ·obtain rfl:k=l.length:=by omega
    have ik:¬ ((l.length:Int)<(l.length:Int)):=by omega
    have e:Hid (cpI l l.length=l):=by
     show _=_
     rw [cpI_all (Nat.le_refl _) HA.out,List.take_length]
    go_wp2_with fail;go_ret;rw [e.out];exact ⟨rfl,c,hbk,HS.out,HF.out,Bx.of_below hb⟩
theorem implSetLeast_any (v:Value) (l:List It) (w:World) (h:Is w v l) :
  Calls Tryz.prog 200 #[v] w fun e w'=>∃ o:Value,e= .returned o/\OwnI w' w.heap.size o (leastS l)/\Below w.heap.size w w':=by
 have HL:Hid (cpI (onceS l) (onceS l).length=leastS l):=by
  show _=_
  cases hk:sokB l
  ·rw [onceS_no hk,leastS_no hk];rfl
  ·rw [onceS_yes hk];exact cp_least hk
 have hO:=onceS_len l;go_enter Tryz.func200,Tryz.ntmps200;go_wp2_with fail;refine (implSetOnce_any v l w h).mono ?_;rintro e w1 ⟨o,rfl,own1,hb1⟩;generalize onceS l=m at *
 rcases ownK_open own1 itC_len with ⟨rfl,rfl⟩|⟨g,cap,c,rfl,hg,hb,hcs,hc,hm,hf⟩
 ·go_wp2_with fail;refine (compactNI_any w1).mono ?_;rintro e w2 ⟨rfl,hb2⟩;go_wp2_with fail;go_ret;refine ⟨_,rfl,?_,bSz hb1 hb2⟩;rw [<- HL.out];exact oN _ _ _ _ _
 ·have HF:Hid (FillK itC 3 c m m.length):=hf;clear hf own1;go_wp2_with fail;refine (compactI_any g cap c m w1 hb hcs hc hm (by omega) HF.out).mono ?_;rintro e w2 ⟨c',rfl,hb2,hcs2,hf2,hx2⟩;have HF2:=(show Hid _ from hf2);clear hf2;go_wp2_with fail;go_ret;have hcl:(cpI m m.length).length<=m.length:=(cpI_sub m).length_le;refine ⟨_,rfl,?_,hx2.below hb1 hb1.size hg⟩;rw [<- HL.out];exact ownK_of_fill hb2 HF2.out itC_len hcs2 (by omega) hm hg
end Go.Proofs.YtbdpcngcbnoioaaGreatDoor
set_option maxRecDepth 100000
set_option maxHeartbeats 32000000
namespace Go.Proofs.YtbdpcngcbnoioaaGreatDoor
open Go.RowKit Go.Shelf
open Go.ChangeMaps (setBlock)
theorem yield_any {m m':Nat} {P:Program} {l:Nat} {args:Array Value} {W:World} {R:Ending->World->Prop} (h:YieldAt Fence.wide m P l args W R):YieldAt Fence.wide m' P l args W R:=by
 obtain ⟨fn,tmps,assign,body,h1,h2,h3⟩:=h;exact ⟨fn,tmps,assign,body,h1,h2,fun c cs _=>h3 c cs (room_wide _)⟩
theorem seqIt_n {α:Type} {m k:Nat} {P:Program} {g:Nat} {lb:Array Value} {encs:α->Array Value} {S:List α->Prop} {Pf:List α->α->Prop} {N:Nat} {w:World} (n:Nat) (h:SeqIt m Fence.wide k P g lb encs S Pf N w):SeqIt m Fence.wide n P g lb encs S Pf N w :=
 fun l J W h1 h2 h3 h4=>callsIn_wide.2 (callsIn_wide.1 (h l J W h1 h2 (fun pre x W1 a b c=>yield_any (h3 pre x W1 a b c)) h4))
theorem Kx.of_below {N mb:Nat} {W W':World} (h:Below W.heap.size W W') (hN:N<=W.heap.size):Kx N mb W W':=⟨h.size,fun k hk _=>h.block k (by omega)⟩
theorem bStepL {wb:Nat} {w W W':World} (e:w.heap.size=wb) (h:Below wb w W) (hb:Below W.heap.size W W'):Below wb w W':=by
 subst e;exact bSz h hb
def ChI (kind:Int) (l:List Rw) (wb:Nat) (w W0:World) (pre:LI) (W:World):Prop :=
 (∃ v:Value,Bk W (wb+1+1) #[v] 28/\OwnR W W0.heap.size v (chgT kind l pre))/\Below wb w W/\Kx W0.heap.size (wb+1+1) W0 W
theorem chI_own {kind:Int} {l:List Rw} {wb:Nat} {w W0:World} {pre:LI} {A B:World} {row:Option Nat} (hs:ChI kind l wb w W0 pre A) (hg:A.grownBy B row) (hr:∀ r,row=some r->W0.heap.size<=r/\∃ o,A.heap[r]?=some o/\o.isCells=false) (hm:wb+1+1<W0.heap.size):ChI kind l wb w W0 pre B:=by
 obtain ⟨⟨v,h1,h2⟩,h5,h6⟩:=hs;have hs6:=h6.size;have hne:∀ {k:Nat} {c:Array Value} {t:TypeId},Bk A k c t->∀ r,row=some r->k≠r:=fun hb r e e'=>by
  obtain ⟨_,o,h8,h9⟩:=hr r e;subst e';unfold Bk at hb;rw [hb] at h8;cases h8;cases h9
 refine ⟨⟨v,Bk.grew h1 hg (hne h1),oAz h2 fun q e=>hg.block q (oT h2 q e) (fun e'=>?_)⟩,?_,⟨Nat.le_trans hs6 hg.size,fun k hk hm=>?_⟩⟩
 ·obtain ⟨c,hbc⟩:=ownR_cells h2 e;exact hne hbc q e'.symm rfl
 ·have:=h1.lt;exact Below.grew h5 hg (by omega) (fun r e=>by have:=(hr r e).1;omega)
 ·rw [hg.block k (by omega) (fun e=>by have:=(hr k e.symm).1;omega)];exact h6.block k hk hm
theorem chI_it {kind:Int} {l:List Rw} {wb:Nat} {w W0:World} {pre:LI} {A B:World} (hs:ChI kind l wb w W0 pre A) (hi:ItS W0.heap.size (wb+1+1) A B) (hm:wb+1+1<W0.heap.size):ChI kind l wb w W0 pre B:=by
 obtain ⟨⟨v,h1,h2⟩,h5,h6⟩:=hs;refine ⟨⟨v,?_,oAz h2 fun q e=>hi.arr q (by rw [arrOf_bk h1];exact e)⟩,⟨hi.os.trans h5.os,hi.tape.trans h5.tape,hi.output.trans h5.output,Nat.le_trans h5.size hi.size,fun k hk=>(hi.low k (by omega)).trans (h5.block k hk)⟩,⟨Nat.le_trans h6.size hi.size,fun k hk hn=>(hi.low k hk).trans (h6.block k hk hn)⟩⟩;unfold Bk;rw [hi.low _ hm];exact h1
theorem sum_count (s:List It):countS s=sumK 1 s:=by simp [sumK]
theorem sum_once (s:List It):onceS s=sumK 2 s:=by simp [sumK]
theorem sum_least (s:List It):leastS s=sumK 3 s:=by simp [sumK]
theorem appRs_run {W:World} {base:Nat} {v:Value} {l:List Rw} (ty:TypeId) (hown:OwnR W base v l) {u:Value} {m:List Rw} (hR:Rs W u m) (hl:l.length+m.length<=2000000) (hbase:base<=W.heap.size) :
  ∃ (o:Value) (W':World),(Builtin.append_ #[28,28] ty #[v,u]).run Tryz.prog W= .ok o W'/\OwnR W' base o (l++m)/\W.grownBy W' v.ownBlock/\(o.ownBlock=v.ownBlock\/∃ q,o.ownBlock=some q/\W.heap.size<=q/\q<W'.heap.size):=by
 obtain ⟨i0,hi,hz0,hz1,hz2⟩:=info_parts infoR;obtain ⟨ad,cap,rfl,hsrc⟩:=rs_src hR
 by_cases hm0:m=[]
 ·subst hm0;exact ⟨v,W,app_zero hown ad cap ty,by simpa using hown,⟨rfl,rfl,rfl,Nat.le_refl _,fun _ _ _=>rfl⟩, .inl rfl⟩
 ·obtain ⟨g,off,rfl,hnews⟩:=hsrc hm0;have hpos:0<m.length:=List.length_pos_iff.2 hm0;obtain ⟨g',cap',w',h1,h2,h3,h4,h5⟩:=run_append_lies (P:=Tryz.prog) (w:=W) 28 ty base 55 i0 _ 5 40 Tryz.underlying28 hi hz0 hz1 hz2 rfl (by decide) v l.length (l.flatMap rowC) hown ⟨g,off,none⟩ m.length cap (m.flatMap rowC) (flat_len rowC_len m) hnews (onesRs m) hpos (by unfold maxLen;omega) (by omega) hbase W.heap.size rfl;refine ⟨_,w',h1,?_,h3,?_⟩
  ·show w'.ownsRow _ _ _ _ _ _
   rw [List.flatMap_append,List.length_append];exact h2
  ·rcases h4 with h4|h4
   ·exact .inl h4.symm
   ·exact .inr ⟨g',rfl,by omega,h5⟩
structure ChS (kind:Int) (l D:List Rw) (rv fv v:Value) (X Y:Int) (L:Array Bool) (W:World) (t10 t11 t12 t13 t14 t15 t16 t17 t18:Value):Prop where
 s0:L.getD 0 false=true->t10=v
 s1:L.getD 1 false=true->t11=v
 s2:L.getD 2 false=true->t12=tv X Y
 s3:L.getD 3 false=true->t13=fv
 s4:L.getD 4 false=true->t14=rv
 s5:L.getD 5 false=true->t15=tv X Y
 s6:L.getD 6 false=true->Is W t16 (itemsL l X Y)
 s7:L.getD 7 false=true->Is W t17 (sumK kind (itemsL l X Y))
 s8:L.getD 8 false=true->Rs W t18 D
theorem ChS.keep {kind:Int} {l D:List Rw} {rv fv v:Value} {X Y:Int} {L:Array Bool} {W W':World} {t10 t11 t12 t13 t14 t15 t16 t17 t18:Value} (h:ChS kind l D rv fv v X Y L W t10 t11 t12 t13 t14 t15 t16 t17 t18) (hb:Below W.heap.size W W'):ChS kind l D rv fv v X Y L W' t10 t11 t12 t13 t14 t15 t16 t17 t18 where
 s0:=h.s0
 s1:=h.s1
 s2:=h.s2
 s3:=h.s3
 s4:=h.s4
 s5:=h.s5
 s6:=fun e=>(h.s6 e).keep hb
 s7:=fun e=>(h.s7 e).keep hb
 s8:=fun e=>(h.s8 e).keep hb
theorem ChS.put0 {kind:Int} {l D:List Rw} {rv fv v:Value} {X Y:Int} {L:Array Bool} {W:World} {t10 t11 t12 t13 t14 t15 t16 t17 t18:Value} {u:Value} (h:ChS kind l D rv fv v X Y L W t10 t11 t12 t13 t14 t15 t16 t17 t18) (hu:u=v):ChS kind l D rv fv v X Y (L.setIfInBounds 0 true) W u t11 t12 t13 t14 t15 t16 t17 t18 where
 s0:=fun _=>hu
 s1:=fun e=>h.s1 (gS e)
 s2:=fun e=>h.s2 (gS e)
 s3:=fun e=>h.s3 (gS e)
 s4:=fun e=>h.s4 (gS e)
 s5:=fun e=>h.s5 (gS e)
 s6:=fun e=>h.s6 (gS e)
 s7:=fun e=>h.s7 (gS e)
 s8:=fun e=>h.s8 (gS e)
theorem ChS.put1 {kind:Int} {l D:List Rw} {rv fv v:Value} {X Y:Int} {L:Array Bool} {W:World} {t10 t11 t12 t13 t14 t15 t16 t17 t18:Value} {u:Value} (h:ChS kind l D rv fv v X Y L W t10 t11 t12 t13 t14 t15 t16 t17 t18) (hu:u=v):ChS kind l D rv fv v X Y (L.setIfInBounds 1 true) W t10 u t12 t13 t14 t15 t16 t17 t18 where
 s0:=fun e=>h.s0 (gS e)
 s1:=fun _=>hu
 s2:=fun e=>h.s2 (gS e)
 s3:=fun e=>h.s3 (gS e)
 s4:=fun e=>h.s4 (gS e)
 s5:=fun e=>h.s5 (gS e)
 s6:=fun e=>h.s6 (gS e)
 s7:=fun e=>h.s7 (gS e)
 s8:=fun e=>h.s8 (gS e)
theorem ChS.put2 {kind:Int} {l D:List Rw} {rv fv v:Value} {X Y:Int} {L:Array Bool} {W:World} {t10 t11 t12 t13 t14 t15 t16 t17 t18:Value} {u:Value} (h:ChS kind l D rv fv v X Y L W t10 t11 t12 t13 t14 t15 t16 t17 t18) (hu:u=tv X Y):ChS kind l D rv fv v X Y (L.setIfInBounds 2 true) W t10 t11 u t13 t14 t15 t16 t17 t18 where
 s0:=fun e=>h.s0 (gS e)
 s1:=fun e=>h.s1 (gS e)
 s2:=fun _=>hu
 s3:=fun e=>h.s3 (gS e)
 s4:=fun e=>h.s4 (gS e)
 s5:=fun e=>h.s5 (gS e)
 s6:=fun e=>h.s6 (gS e)
 s7:=fun e=>h.s7 (gS e)
 s8:=fun e=>h.s8 (gS e)
theorem ChS.put3 {kind:Int} {l D:List Rw} {rv fv v:Value} {X Y:Int} {L:Array Bool} {W:World} {t10 t11 t12 t13 t14 t15 t16 t17 t18:Value} {u:Value} (h:ChS kind l D rv fv v X Y L W t10 t11 t12 t13 t14 t15 t16 t17 t18) (hu:u=fv):ChS kind l D rv fv v X Y (L.setIfInBounds 3 true) W t10 t11 t12 u t14 t15 t16 t17 t18 where
 s0:=fun e=>h.s0 (gS e)
 s1:=fun e=>h.s1 (gS e)
 s2:=fun e=>h.s2 (gS e)
 s3:=fun _=>hu
 s4:=fun e=>h.s4 (gS e)
 s5:=fun e=>h.s5 (gS e)
 s6:=fun e=>h.s6 (gS e)
 s7:=fun e=>h.s7 (gS e)
 s8:=fun e=>h.s8 (gS e)
theorem ChS.put4 {kind:Int} {l D:List Rw} {rv fv v:Value} {X Y:Int} {L:Array Bool} {W:World} {t10 t11 t12 t13 t14 t15 t16 t17 t18:Value} {u:Value} (h:ChS kind l D rv fv v X Y L W t10 t11 t12 t13 t14 t15 t16 t17 t18) (hu:u=rv):ChS kind l D rv fv v X Y (L.setIfInBounds 4 true) W t10 t11 t12 t13 u t15 t16 t17 t18 where
 s0:=fun e=>h.s0 (gS e)
 s1:=fun e=>h.s1 (gS e)
 s2:=fun e=>h.s2 (gS e)
 s3:=fun e=>h.s3 (gS e)
 s4:=fun _=>hu
 s5:=fun e=>h.s5 (gS e)
 s6:=fun e=>h.s6 (gS e)
 s7:=fun e=>h.s7 (gS e)
 s8:=fun e=>h.s8 (gS e)
theorem ChS.put5 {kind:Int} {l D:List Rw} {rv fv v:Value} {X Y:Int} {L:Array Bool} {W:World} {t10 t11 t12 t13 t14 t15 t16 t17 t18:Value} {u:Value} (h:ChS kind l D rv fv v X Y L W t10 t11 t12 t13 t14 t15 t16 t17 t18) (hu:u=tv X Y):ChS kind l D rv fv v X Y (L.setIfInBounds 5 true) W t10 t11 t12 t13 t14 u t16 t17 t18 where
 s0:=fun e=>h.s0 (gS e)
 s1:=fun e=>h.s1 (gS e)
 s2:=fun e=>h.s2 (gS e)
 s3:=fun e=>h.s3 (gS e)
 s4:=fun e=>h.s4 (gS e)
 s5:=fun _=>hu
 s6:=fun e=>h.s6 (gS e)
 s7:=fun e=>h.s7 (gS e)
 s8:=fun e=>h.s8 (gS e)
theorem ChS.put6 {kind:Int} {l D:List Rw} {rv fv v:Value} {X Y:Int} {L:Array Bool} {W:World} {t10 t11 t12 t13 t14 t15 t16 t17 t18:Value} {u:Value} (h:ChS kind l D rv fv v X Y L W t10 t11 t12 t13 t14 t15 t16 t17 t18) (hu:Is W u (itemsL l X Y)):ChS kind l D rv fv v X Y (L.setIfInBounds 6 true) W t10 t11 t12 t13 t14 t15 u t17 t18 where
 s0:=fun e=>h.s0 (gS e)
 s1:=fun e=>h.s1 (gS e)
 s2:=fun e=>h.s2 (gS e)
 s3:=fun e=>h.s3 (gS e)
 s4:=fun e=>h.s4 (gS e)
 s5:=fun e=>h.s5 (gS e)
 s6:=fun _=>hu
 s7:=fun e=>h.s7 (gS e)
 s8:=fun e=>h.s8 (gS e)
theorem ChS.put7 {kind:Int} {l D:List Rw} {rv fv v:Value} {X Y:Int} {L:Array Bool} {W:World} {t10 t11 t12 t13 t14 t15 t16 t17 t18:Value} {u:Value} (h:ChS kind l D rv fv v X Y L W t10 t11 t12 t13 t14 t15 t16 t17 t18) (hu:Is W u (sumK kind (itemsL l X Y))):ChS kind l D rv fv v X Y (L.setIfInBounds 7 true) W t10 t11 t12 t13 t14 t15 t16 u t18 where
 s0:=fun e=>h.s0 (gS e)
 s1:=fun e=>h.s1 (gS e)
 s2:=fun e=>h.s2 (gS e)
 s3:=fun e=>h.s3 (gS e)
 s4:=fun e=>h.s4 (gS e)
 s5:=fun e=>h.s5 (gS e)
 s6:=fun e=>h.s6 (gS e)
 s7:=fun _=>hu
 s8:=fun e=>h.s8 (gS e)
theorem ChS.put8 {kind:Int} {l D:List Rw} {rv fv v:Value} {X Y:Int} {L:Array Bool} {W:World} {t10 t11 t12 t13 t14 t15 t16 t17 t18:Value} {u:Value} (h:ChS kind l D rv fv v X Y L W t10 t11 t12 t13 t14 t15 t16 t17 t18) (hu:Rs W u D):ChS kind l D rv fv v X Y (L.setIfInBounds 8 true) W t10 t11 t12 t13 t14 t15 t16 t17 u where
 s0:=fun e=>h.s0 (gS e)
 s1:=fun e=>h.s1 (gS e)
 s2:=fun e=>h.s2 (gS e)
 s3:=fun e=>h.s3 (gS e)
 s4:=fun e=>h.s4 (gS e)
 s5:=fun e=>h.s5 (gS e)
 s6:=fun e=>h.s6 (gS e)
 s7:=fun e=>h.s7 (gS e)
 s8:=fun _=>hu
def ChR (kind:Int) (l D:List Rw) (rv fv v:Value) (wb c1:Nat) (g1:Value) (X Y:Int) (G1:World->Value->Prop) (G2:World->Prop) (w0:World) (L:Array Bool) (a:Act) (W:World):Prop :=
 L.size=11/\(L.getD 9 true=false->Below w0.heap.size w0 W)/\(L.getD 10 false=true->G2 W)/\∃ t10 t11 t12 t13 t14 t15 t16 t17 t18 t19:Value,
  a={ tmps:=#[rv,fv, .pointer (some ⟨wb,0,none⟩), .pointer (some ⟨wb+1,0,none⟩), .slice none 0 0, .pointer (some ⟨wb+1+1,0,none⟩), .pointer (some ⟨c1,0,none⟩),rv,g1,tv X Y,t10,t11,t12,t13,t14,t15,t16,t17,t18,t19,undef],defers:=[] }/\(L.getD 9 false=true->L.getD 10 true=false->G1 W t19)/\(L.getD 9 true=false->ChS kind l D rv fv v X Y L W t10 t11 t12 t13 t14 t15 t16 t17 t18)
theorem chR_next {kind:Int} {l D:List Rw} {rv fv v:Value} {wb c1:Nat} {g1:Value} {X Y:Int} {G1:World->Value->Prop} {G2:World->Prop} {w0:World} {L:Array Bool} {W:World} {t10 t11 t12 t13 t14 t15 t16 t17 t18 t19:Value} {i:Nat} (hi:i<9) (hLs:L.size=11) (h9:L.getD 9 true=false) (h10:L.getD 10 true=false) (hb:Below w0.heap.size w0 W) (S:ChS kind l D rv fv v X Y (L.setIfInBounds i true) W t10 t11 t12 t13 t14 t15 t16 t17 t18) :
  ChR kind l D rv fv v wb c1 g1 X Y G1 G2 w0 (L.setIfInBounds i true) { tmps:=#[rv,fv, .pointer (some ⟨wb,0,none⟩), .pointer (some ⟨wb+1,0,none⟩), .slice none 0 0, .pointer (some ⟨wb+1+1,0,none⟩), .pointer (some ⟨c1,0,none⟩),rv,g1,tv X Y,t10,t11,t12,t13,t14,t15,t16,t17,t18,t19,undef],defers:=[] } W :=
 ⟨by simp [hLs],fun _=>hb,fun e=>by rw [getD_setF (by omega)] at e;exact absurd e (by simp [getD_tf h10 (by omega)]),_,_,_,_,_,_,_,_,_,_,rfl,fun e=>by rw [getD_setF (by omega)] at e;exact absurd e (by simp [getD_tf h9 (by omega)]),fun _=>S⟩
theorem chR_app {kind:Int} {l D:List Rw} {rv fv v:Value} {wb c1:Nat} {g1:Value} {X Y:Int} {G1:World->Value->Prop} {G2:World->Prop} {w0:World} {L:Array Bool} {W:World} {t10 t11 t12 t13 t14 t15 t16 t17 t18:Value} {u:Value} (hLs:L.size=11) (h10:L.getD 10 true=false) (hu:G1 W u) :
  ChR kind l D rv fv v wb c1 g1 X Y G1 G2 w0 (L.setIfInBounds 9 true) { tmps:=#[rv,fv, .pointer (some ⟨wb,0,none⟩), .pointer (some ⟨wb+1,0,none⟩), .slice none 0 0, .pointer (some ⟨wb+1+1,0,none⟩), .pointer (some ⟨c1,0,none⟩),rv,g1,tv X Y,t10,t11,t12,t13,t14,t15,t16,t17,t18,u,undef],defers:=[] } W :=
 ⟨by simp [hLs],fun e=>by simp [hLs] at e,fun e=>by rw [getD_setF (by omega)] at e;exact absurd e (by simp [getD_tf h10 (by omega)]),_,_,_,_,_,_,_,_,_,_,rfl,fun _ _=>hu,fun e=>by simp [hLs] at e⟩
theorem chR_put {kind:Int} {l D:List Rw} {rv fv v:Value} {wb c1:Nat} {g1:Value} {X Y:Int} {G1:World->Value->Prop} {G2:World->Prop} {w0:World} {L:Array Bool} {W:World} {t10 t11 t12 t13 t14 t15 t16 t17 t18 t19:Value} (hLs:L.size=11) (h9:L.getD 9 false=true) (hu:G2 W) :
  ChR kind l D rv fv v wb c1 g1 X Y G1 G2 w0 (L.setIfInBounds 10 true) { tmps:=#[rv,fv, .pointer (some ⟨wb,0,none⟩), .pointer (some ⟨wb+1,0,none⟩), .slice none 0 0, .pointer (some ⟨wb+1+1,0,none⟩), .pointer (some ⟨c1,0,none⟩),rv,g1,tv X Y,t10,t11,t12,t13,t14,t15,t16,t17,t18,t19,undef],defers:=[] } W :=
 ⟨by simp [hLs],fun e=>(by rw [getD_setF (by omega)] at e;rw [getD_tf e (by omega)] at h9;cases h9),fun _=>hu,_,_,_,_,_,_,_,_,_,_,rfl,fun _ e=>by simp [hLs] at e,fun e=>(by rw [getD_setF (by omega)] at e;rw [getD_tf e (by omega)] at h9;cases h9)⟩
open Go.ChangeMaps (setBlock)
attribute [local go_sem] Oper.semAt_some
theorem changes_any (kind:Int) (fn:Nat) (eg:∀ args w,(callFunc fn args).run Tryz.prog w= .ok (.enter fn args) w) (hset:∀ (v:Value) (s:List It) (W:World),Is W v s->Calls Tryz.prog fn #[v] W fun e w'=>∃ o:Value,e= .returned o/\OwnI w' W.heap.size o (sumK kind s)/\Below W.heap.size W w')
  (a:Option Addr) (cap:Nat) (l:List Rw) (w:World) (hk:rokB l=true) (hRs:Rs w (.slice a l.length cap) l) :
  CallsIn Fence.wide 6 Tryz.prog 224 #[.slice a l.length cap, .func (.func fn) #[] #[]] w fun e w'=>∃ o:Value,e= .returned o/\OwnR w' w.heap.size o (chgL kind l)/\Below w.heap.size w w':=by
 have HSET:=(show Hid _ from hset);have hll:=rLz hk;have HH:Hid (Rs w (.slice a l.length cap) l):=hRs;refine callsIn_of_wp_marks Tryz.func224 rfl trivial ?_ rfl;simp only [Tryz.ntmps224,List.size_toArray,List.length_cons,List.length_nil,Nat.reduceAdd,Nat.reduceSub,Array.replicate_succ,Array.replicate_zero,List.push_toArray,List.append_toArray,List.nil_append,List.cons_append]
 gi_wp2
 refine ⟨trivial,?_⟩;refine CallsIn.mono (callsIn_wide.2 (joinedTimes_any _ _ _ _)) ?_;rintro e W0 ⟨rfl,hW0⟩;have bA0:Bk W0 w.heap.size #[.slice a l.length cap] 28:=by
  rw [hW0];exact ((((Bk.new (w:=w) _ _ rfl).alloc _).alloc _).alloc _)
 have bF0:Bk W0 (w.heap.size+1) #[.func (.func fn) #[] #[]] 152:=by
  rw [hW0];exact ((Bk.new (w:=w.alloc _) _ _ (by simp)).alloc _).alloc _
 have bm0:Bk W0 (w.heap.size+1+1) #[.slice none 0 0] 28:=by
  rw [hW0];exact (Bk.new (w:=(w.alloc _).alloc _) _ _ (by simp)).alloc _
 have b10:Bk W0 (w.heap.size+1+1+1) #[.slice a l.length cap] 28:=by
  rw [hW0];have:=Bk.new (w:=((w.alloc (.cells #[.slice a l.length cap] 28)).alloc (.cells #[.func (.func fn) #[] #[]] 152)).alloc (.cells #[.slice none 0 0] 28)) #[.slice a l.length cap] 28 (k:=w.heap.size+1+1+1) (by simp);exact this
 have hsz:W0.heap.size=w.heap.size+1+1+1+1:=by rw [hW0];simp
 have hB0:Below w.heap.size w W0:=by rw [hW0];exact bAz (bAz (bAz (bAz (Below.refl _ _) _) _) _) _
 clear hW0 hRs hset;have ha0:arrOf W0 (w.heap.size+1+1)=none:=by rw [arrOf_bk bm0];rfl
 have R0:=HH.out.keep hB0
 gi_wp2
 generalize hwb:w.heap.size=wb at *;have HSZ:Hid (W0.heap.size=wb+1+1+1+1):=hsz;have HWB:Hid (w.heap.size=wb):=hwb;clear hwb;have hmW:wb+1+1<W0.heap.size:=by omega
 refine wpIn_rangeFunc_it (n:=6) (m:=wb+1+1) (w0:=W0) rfl (by omega) (gf:=261) (lb:=#[.pointer (some ⟨wb+1+1+1,0,none⟩)]) rfl trivial (enters_of Tryz.func261 (by kernel_rfl) rfl)
  (seqIt_n 5 (joined_seq (wb+1+1+1) (wb+1+1) a cap l W0 hk R0 b10 hmW (fun q e=>by rw [ha0] at e;cases e))) hmW (Below.refl _ _) (fun _=>rfl)
  (fun pre W=>ChI kind l wb w W0 pre W)
  (fun pre A B row hs hg hr=>chI_own hs hg hr hmW)
  (fun pre A B hs hi=>chI_it hs hi hmW)
  ⟨⟨_,bm0,oN _ _ _ _ _⟩,hB0,Kx.refl _ _ _⟩
  (fun t a' W=>∃ c1:Nat,W0.heap.size<=c1/\Bk W c1 #[.int .i64 t.1, .int .i64 t.2] 32 /\
   a'={ tmps:=#[.slice a l.length cap, .func (.func fn) #[] #[], .pointer (some ⟨wb,0,none⟩), .pointer (some ⟨wb+1,0,none⟩), .slice none 0 0, .pointer (some ⟨wb+1+1,0,none⟩), .pointer (some ⟨c1,0,none⟩), .slice a l.length cap, .func (.func 261) #[] #[.pointer (some ⟨wb+1+1+1,0,none⟩)],tv t.1 t.2,undef,undef,undef,undef,undef,undef,undef,undef,undef,undef,undef],defers:=[] })
  (fun t a' _ A B row hs hg hr=>by
   obtain ⟨c1,h1,h3,h7⟩:=hs;exact ⟨c1,h1,Bk.grew h3 hg (fun r e e'=>by
    obtain ⟨_,o,h8,h9⟩:=hr r e;subst e';unfold Bk at h3;rw [h3] at h8;cases h8;cases h9),h7⟩)
  ?assign ?body ?done
 case assign =>
  rintro lq pre t W K ⟨⟨v,h1,h2⟩,h5,h6⟩ hK;have hbW:Below W.heap.size W (W.alloc (.cells #[.int .i64 t.1, .int .i64 t.2] 32)):=bAz (Below.refl _ _) _;have hs6:=h6.size
  gi_wp2
  refine hK _ _ ((KeepsOthers.alloc _ _).from _) (KpA.below hbW h1.lt) ⟨⟨v,h1.keep hbW,oK h2 hbW⟩,bStepL HWB.out h5 hbW,h6.trans (Kx.of_below hbW hs6)⟩ ⟨W.heap.size,hs6,Bk.new _ _ rfl,rfl⟩
 case body =>
  rintro lq pre ⟨X,Y⟩ a' Wb hlq ⟨rq,hrq⟩ hI ⟨c1,hc1,k1,rfl⟩ hlt hPf;simp only at k1;obtain ⟨⟨v,h1,h2⟩,h5,h6⟩:=hI;obtain ⟨n,hn,hpre,hgt⟩:=hPf;have HTI:Hid ((jT l)[n]?=some (X,Y)):=by
   show _=_
   rw [List.getElem?_eq_getElem hn,<-hgt];simp [gt,List.getD_eq_getElem?_getD,List.getElem?_eq_getElem hn]
  have HSN:Hid (chgT kind l (pre++[(X,Y)])=chgT kind l pre++stamp (X,Y) (difAt kind l (X,Y))):=chgT_snoc kind l pre (X,Y);have HLK:Hid (∀ L:List It,(∀ v,tot L v=tot (sumK kind (itemsL l X Y)) v-tot (atL (chgT kind l pre) X Y) v)->sumL ltT L=difAt kind l (X,Y)):=fun L hL=>lack_sum kind hk HTI.out (by rw [<- hpre];exact hL);have HCR:Hid (∀ r∈chgT kind l pre,rwOkB r=true /\ -2<=r.2/\r.2<=2):=fun r hr=>chgT_row (fun t ht=>by rw [hpre] at ht;exact jt_take ht) hr;have hcl:(chgT kind l pre).length<=102400:=by have:=chgT_len kind l pre;omega
  have hs6:=h6.size;have bA:Bk Wb wb #[.slice a l.length cap] 28:=by unfold Bk;rw [h6.block wb (by omega) (by omega)];exact bA0
  have bF:Bk Wb (wb+1) #[.func (.func fn) #[] #[]] 152:=by unfold Bk;rw [h6.block (wb+1) (by omega) (by omega)];exact bF0
  have Rl:Rs Wb (.slice a l.length cap) l:=HH.out.keep (by rw [HWB.out];exact h5);have H6:=(show Hid (Kx W0.heap.size (wb+1+1) W0 Wb) from h6);have H5:=(show Hid (Below wb w Wb) from h5);have HDL:Hid ((difAt kind l (X,Y)).length<=1600):=dif_len kind l (X,Y);have hS1:=sumK_len kind (items_sokF l X Y);have HS1:Hid (absum (sumK kind (itemsL l X Y))<=400):=by
   have:=absum_ones (m:=sumK kind (itemsL l X Y)) (fun r hr=>sumK_ones (items_sokF l X Y) hr)
   show _<=_;omega
  have HLE:Hid (lackL (chgT kind l pre) X Y (sumK kind (itemsL l X Y))=difAt kind l (X,Y)):=HLK.out _ fun v=>by rw [tot_append,negAt_tot];omega
  have HAP:Hid (∀ (W1:World) (u:Value),Below Wb.heap.size Wb W1->Rs W1 u (stamp (X,Y) (difAt kind l (X,Y)))->∃ (o:Value) (W':World),(Builtin.append_ #[28,28] 28 #[v,u]).run Tryz.prog W1= .ok o W'/\(∃ (q:Option Addr) (n c:Nat),o= .slice q n c)/\W'.frozen? ⟨wb+1+1,0,none⟩=false/\W'.cell? ⟨wb+1+1,0,none⟩=some v/\KeepsFrom W0.heap.size Wb (W'.setCell ⟨wb+1+1,0,none⟩ o)/\KpA (wb+1+1) Wb (W'.setCell ⟨wb+1+1,0,none⟩ o)/\ChI kind l wb w W0 (pre++[(X,Y)]) (W'.setCell ⟨wb+1+1,0,none⟩ o)):=fun W1 u hb hu=>by
   have own1:=oK h2 hb;have hsl:(stamp (X,Y) (difAt kind l (X,Y))).length<=1600:=by rw [stamp_len];exact HDL.out
   obtain ⟨o,W',e1,e2,e3,e4⟩:=appRs_run 28 own1 hu (by omega) (by have:=hb.size;omega);rw [<- HSN.out] at e2;obtain ⟨f1,f2,f3,f4,f5,f6,f7,f8⟩:=round_fin h1 hmW (by omega) h2 hb e3 e2 e4 h5 hs6;have hse:=e3.size;have hbs:=hb.size;refine ⟨o,W',e1,?_,f1,f2,f3,f4,⟨_,f5,f6⟩,f7,⟨f8,fun q hq hn=>?_⟩⟩
   ·obtain ⟨ao,co,eo,-⟩:=Rs.open (OwnR.rs e2 (by have:=chgT_len kind l (pre++[(X,Y)]);simp at this;omega));exact ⟨_,_,_,eo⟩
   ·rw [Below.heap_setCell _ _ _ _ (show q≠(⟨wb+1+1,0,none⟩:Addr).block from hn),e3.block q (by omega) (fun e=>by have:=oB h2 q e.symm;omega),hb.block q (by omega)];exact h6.block q hq hn
  have HX:Hid (∀ W,Below Wb.heap.size Wb W->Rs W (.slice a l.length cap) l/\Bk W wb #[.slice a l.length cap] 28/\Bk W (wb+1) #[.func (.func fn) #[] #[]] 152/\Bk W c1 #[.int .i64 X, .int .i64 Y] 32/\Bk W (wb+1+1) #[v] 28/\Rs W v (chgT kind l pre)):=fun W hb =>
   ⟨Rl.keep hb,bA.keep hb,bF.keep hb,k1.keep hb,h1.keep hb,OwnR.rs (oK h2 hb) (by omega)⟩
  obtain ⟨G1,hG1⟩:∃ G1:World->Value->Prop,G1=fun W' o=>(∃ (q:Option Addr) (n c:Nat),o= .slice q n c)/\W'.frozen? ⟨wb+1+1,0,none⟩=false/\W'.cell? ⟨wb+1+1,0,none⟩=some v/\KeepsFrom W0.heap.size Wb (W'.setCell ⟨wb+1+1,0,none⟩ o)/\KpA (wb+1+1) Wb (W'.setCell ⟨wb+1+1,0,none⟩ o)/\ChI kind l wb w W0 (pre++[(X,Y)]) (W'.setCell ⟨wb+1+1,0,none⟩ o):=⟨_,rfl⟩;obtain ⟨G2,hG2⟩:∃ G2:World->Prop,G2=fun W'=>KeepsFrom W0.heap.size Wb W'/\KpA (wb+1+1) Wb W'/\ChI kind l wb w W0 (pre++[(X,Y)]) W':=⟨_,rfl⟩;clear hpre hgt hn bA0 bF0 bm0 b10 h6 h5 hrq R0 hB0 ha0 h1 h2 k1 bA bF Rl HSN HLK
  gi_wp2
  refine wpIn_region_inv2 (by kernel_rfl) (ChR kind l (stamp (X,Y) (difAt kind l (X,Y))) (.slice a l.length cap) (.func (.func fn) #[] #[]) v wb c1 (.func (.func 261) #[] #[.pointer (some ⟨wb+1+1+1,0,none⟩)]) X Y G1 G2 Wb) ?hg ?hs ?h0 ?hstep ?hend
  case hg =>
   intro i op ho;have hi:i<11:=(Array.getElem?_eq_some_iff.1 ho).1;obtain rfl|rfl|rfl|rfl|rfl|rfl|rfl|rfl|rfl|rfl|rfl:i=0\/i=1\/i=2\/i=3\/i=4\/i=5\/i=6\/i=7\/i=8\/i=9\/i=10:=by omega
   all_goals cases ho;rfl
  case hs=>intro L a W hI;exact hI.1
  case h0 =>
   refine ⟨by simp,fun _=>(Below.refl _ _).drew,fun e=>by simp at e,_,_,_,_,_,_,_,_,_,_,rfl,fun e=>by simp at e,fun _=>?_⟩;constructor<;>(intro e;simp at e)
  case hend =>
   rintro L ac W5 ⟨hLs,-,hF,-⟩ hr;have hallL:∀ j,j<11->L.getD j false=true:=by
    refine all_listed2 (by simpa using hLs) ?_ hr;intro i op ho;have hi:i<11:=(Array.getElem?_eq_some_iff.1 ho).1;obtain rfl|rfl|rfl|rfl|rfl|rfl|rfl|rfl|rfl|rfl|rfl:i=0\/i=1\/i=2\/i=3\/i=4\/i=5\/i=6\/i=7\/i=8\/i=9\/i=10:=by omega
    all_goals cases ho
    all_goals (first|(simp;done)|(simp [Region.binds];done)|decide)
   have hq:=hF (hallL 10 (by omega));rw [hG2] at hq;clear hF hallL hr
   gi_wp2
   exact hq
  case hstep =>
   rintro L ac W i op hdc ⟨hLs,hB,hF,t10,t11,t12,t13,t14,t15,t16,t17,t18,t19,rfl,hQ,hS⟩ hi ho;have hcl:L.getD 9 false=true->∀ j,j<9->L.getD j false=true:=by
    intro l9;have l0:=hdc 9 _ rfl l9 ⟨0, .data⟩ (by simp) rfl;have l8:=hdc 9 _ rfl l9 ⟨8, .data⟩ (by simp) rfl;have l1:=hdc 8 _ rfl l8 ⟨1, .data⟩ (by simp) rfl;have l2:=hdc 8 _ rfl l8 ⟨2, .data⟩ (by simp) rfl;have l7:=hdc 8 _ rfl l8 ⟨7, .data⟩ (by simp) rfl;have l3:=hdc 7 _ rfl l7 ⟨3, .data⟩ (by simp) rfl;have l6:=hdc 7 _ rfl l7 ⟨6, .data⟩ (by simp) rfl;have l4:=hdc 6 _ rfl l6 ⟨4, .data⟩ (by simp) rfl;have l5:=hdc 6 _ rfl l6 ⟨5, .data⟩ (by simp) rfl;intro j hj;obtain rfl|rfl|rfl|rfl|rfl|rfl|rfl|rfl|rfl:j=0\/j=1\/j=2\/j=3\/j=4\/j=5\/j=6\/j=7\/j=8:=by omega
    all_goals assumption
   have hcl2:L.getD 10 false=true->L.getD 9 false=true:=fun l10=>hdc 10 _ rfl l10 ⟨9, .data⟩ (by simp) rfl;clear hdc;obtain ⟨hun,o',ho',hall⟩:=mem_ready.1 hi;rw [ho] at ho';cases ho';have hi11:i<11:=(Array.getElem?_eq_some_iff.1 ho).1;clear hi;generalize hK:(fun a' w'=>ChR kind l (stamp (X,Y) (difAt kind l (X,Y))) (.slice a l.length cap) (.func (.func fn) #[] #[]) v wb c1 (.func (.func 261) #[] #[.pointer (some ⟨wb+1+1+1,0,none⟩)]) X Y G1 G2 Wb (L.setIfInBounds i true) a' w')=K';obtain rfl|rfl|rfl|rfl|rfl|rfl|rfl|rfl|rfl|rfl|rfl:i=0\/i=1\/i=2\/i=3\/i=4\/i=5\/i=6\/i=7\/i=8\/i=9\/i=10:=by omega
   ·cases ho;have h9:L.getD 9 true=false:=sFz hun (by omega) (by omega) (fun e=>hcl e _ (by omega));have h10:L.getD 10 true=false:=sFz h9 (by omega) (by omega) hcl2;have hb:=hB h9;have S:=hS h9;obtain ⟨RL,BA,BF,BT,BV,RV⟩:=HX.out W hb;clear hQ hS hF hB;have q0:=BV.cell (i:=0) (v:=v) rfl;clear RL BA BF BT BV RV;go_simp;subst hK;exact chR_next (by omega) hLs h9 h10 hb (S.put0 rfl)
   ·cases ho;have h9:L.getD 9 true=false:=sFz hun (by omega) (by omega) (fun e=>hcl e _ (by omega));have h10:L.getD 10 true=false:=sFz h9 (by omega) (by omega) hcl2;have hb:=hB h9;have S:=hS h9;obtain ⟨RL,BA,BF,BT,BV,RV⟩:=HX.out W hb;clear hQ hS hF hB;have q0:=BV.cell (i:=0) (v:=v) rfl;clear RL BA BF BT BV RV;go_simp;subst hK;exact chR_next (by omega) hLs h9 h10 hb (S.put1 rfl)
   ·cases ho;have h9:L.getD 9 true=false:=sFz hun (by omega) (by omega) (fun e=>hcl e _ (by omega));have h10:L.getD 10 true=false:=sFz h9 (by omega) (by omega) hcl2;have hb:=hB h9;have S:=hS h9;obtain ⟨RL,BA,BF,BT,BV,RV⟩:=HX.out W hb;clear hQ hS hF hB;obtain ⟨q0,q1,_,_⟩:=BT.two;clear RL BA BF BT BV RV;go_simp;subst hK;exact chR_next (by omega) hLs h9 h10 hb (S.put2 rfl)
   ·cases ho;have h9:L.getD 9 true=false:=sFz hun (by omega) (by omega) (fun e=>hcl e _ (by omega));have h10:L.getD 10 true=false:=sFz h9 (by omega) (by omega) hcl2;have hb:=hB h9;have S:=hS h9;obtain ⟨RL,BA,BF,BT,BV,RV⟩:=HX.out W hb;clear hQ hS hF hB;have q0:=BF.cell (i:=0) (v:= .func (.func fn) #[] #[]) rfl;clear RL BA BF BT BV RV;go_simp;subst hK;exact chR_next (by omega) hLs h9 h10 hb (S.put3 rfl)
   ·cases ho;have h9:L.getD 9 true=false:=sFz hun (by omega) (by omega) (fun e=>hcl e _ (by omega));have h10:L.getD 10 true=false:=sFz h9 (by omega) (by omega) hcl2;have hb:=hB h9;have S:=hS h9;obtain ⟨RL,BA,BF,BT,BV,RV⟩:=HX.out W hb;clear hQ hS hF hB;have q0:=BA.cell (i:=0) (v:= .slice a l.length cap) rfl;clear RL BA BF BT BV RV;go_simp;subst hK;exact chR_next (by omega) hLs h9 h10 hb (S.put4 rfl)
   ·cases ho;have h9:L.getD 9 true=false:=sFz hun (by omega) (by omega) (fun e=>hcl e _ (by omega));have h10:L.getD 10 true=false:=sFz h9 (by omega) (by omega) hcl2;have hb:=hB h9;have S:=hS h9;obtain ⟨RL,BA,BF,BT,BV,RV⟩:=HX.out W hb;clear hQ hS hF hB;obtain ⟨q0,q1,_,_⟩:=BT.two;clear RL BA BF BT BV RV;go_simp;subst hK;exact chR_next (by omega) hLs h9 h10 hb (S.put5 rfl)
   ·cases ho;have h9:L.getD 9 true=false:=sFz hun (by omega) (by omega) (fun e=>hcl e _ (by omega));have h10:L.getD 10 true=false:=sFz h9 (by omega) (by omega) hcl2;have hb:=hB h9;have S:=hS h9;obtain ⟨RL,BA,BF,BT,BV,RV⟩:=HX.out W hb;clear hQ hS hF hB;have e4:=S.s4 (hall ⟨4, .data⟩ (by simp) rfl);have e5:=S.s5 (hall ⟨5, .data⟩ (by simp) rfl);subst e4 e5;clear BA BF BT BV RV;go_simp;refine ⟨trivial,?_⟩;refine CallsIn.inRound lq (CallsIn.mono (callsIn_wide.2 (implAt_any _ l X Y W RL)) ?_);rintro e W1 ⟨o1,rfl,own1,hb1⟩;have I1:=OwnI.is own1 (by have:=items_len l X Y;omega);subst hK;exact chR_next (by omega) hLs h9 h10 (bSz hb hb1) ((S.keep hb1).put6 I1)
   ·cases ho;have h9:L.getD 9 true=false:=sFz hun (by omega) (by omega) (fun e=>hcl e _ (by omega));have h10:L.getD 10 true=false:=sFz h9 (by omega) (by omega) hcl2;have hb:=hB h9;have S:=hS h9;obtain ⟨RL,BA,BF,BT,BV,RV⟩:=HX.out W hb;clear hQ hS hF hB;have e3:=S.s3 (hall ⟨3, .data⟩ (by simp) rfl);have e6:=S.s6 (hall ⟨6, .data⟩ (by simp) rfl);subst e3;clear RL BA BF BT BV RV;go_simp;refine ⟨trivial,?_⟩;refine CallsIn.inRound lq (CallsIn.mono (callsIn_wide.2 (HSET.out _ (itemsL l X Y) W e6)) ?_);rintro e W1 ⟨o1,rfl,own1,hb1⟩;have I1:=OwnI.is own1 (by omega);subst hK;exact chR_next (by omega) hLs h9 h10 (bSz hb hb1) ((S.keep hb1).put7 I1)
   ·cases ho;have h9:L.getD 9 true=false:=sFz hun (by omega) (by omega) (fun e=>hcl e _ (by omega));have h10:L.getD 10 true=false:=sFz h9 (by omega) (by omega) hcl2;have hb:=hB h9;have S:=hS h9;obtain ⟨RL,BA,BF,BT,BV,RV⟩:=HX.out W hb;clear hQ hS hF hB;have e1:=S.s1 (hall ⟨1, .data⟩ (by simp) rfl);have e2:=S.s2 (hall ⟨2, .data⟩ (by simp) rfl);have e7:=S.s7 (hall ⟨7, .data⟩ (by simp) rfl);subst e1 e2;clear RL BA BF BT BV;go_simp;refine ⟨trivial,?_⟩;refine CallsIn.inRound lq (CallsIn.mono (callsIn_wide.2 (lacking_any _ (chgT kind l pre) X Y _ (sumK kind (itemsL l X Y)) W RV (fun r hr=>(HCR.out r hr).1) (by omega) e7 hS1 (by have:=HS1.out;omega) (fun r hr=>sok_k (sumK_sok kind (items_sokF l X Y)) r hr))) ?_);rintro e W1 ⟨o1,rfl,own1,hb1⟩;rw [HLE.out] at own1;have R1:=OwnR.rs own1 (by rw [stamp_len];have:=HDL.out;omega);subst hK;exact chR_next (by omega) hLs h9 h10 (bSz hb hb1) ((S.keep hb1).put8 R1)
   ·cases ho;have h10:L.getD 10 true=false:=sFz hun (by omega) (by omega) hcl2;have hb:=hB hun;have S:=hS hun;have e0:=S.s0 (hall ⟨0, .data⟩ (by simp) rfl);have e8:=S.s8 (hall ⟨8, .data⟩ (by simp) rfl);subst e0;obtain ⟨u,W2,e1,e2⟩:=HAP.out W _ hb e8;have hq1:G1 W2 u:=by rw [hG1];exact e2
    clear e2 S hS hQ hF hB;refine wpIn_append _ _ _ rfl rfl rfl e1 ?_;subst hK;exact chR_app hLs h10 hq1
   ·cases ho;have l9:=hall ⟨9, .data⟩ (by simp) rfl;have hq:=hQ l9 hun;rw [hG1] at hq;obtain ⟨⟨qa,qn,qc,rfl⟩,q1,q2,q3⟩:=hq;have hq2:G2 (W.setCell ⟨wb+1+1,0,none⟩ (.slice qa qn qc)):=by rw [hG2];exact q3
    clear q3 hQ hS hF hB;go_simp;subst hK;exact chR_put hLs l9 hq2
 case done =>
  rintro D xs W hD hS ⟨⟨v,h1,h2⟩,h5,h6⟩ hK;have c0:=h1.cell (i:=0) (v:=v) rfl;subst hS;have hcl:=chgT_len kind l (jT l);have hj:=jtimes_len l;obtain ⟨adv,cpv,rfl,-⟩:=Rs.open (OwnR.rs h2 (by omega));have O3:Hid (OwnR W W0.heap.size (.slice adv (chgT kind l (jT l)).length cpv) (chgT kind l (jT l))):=h2;clear h1 h2
  gi_wp2
  refine ⟨by simp, .inl ⟨_,_,rfl,run_takeDeferred hK,?_⟩⟩;refine ⟨_,results_tmp rfl _ _ _,_,rfl,?_,?_⟩
  ·refine oLz (B:=W0.heap.size) ?_ (by have:=HWB.out;omega);refine oAz O3.out fun q e=>?_;obtain ⟨c,hbc⟩:=ownR_cells O3.out e;exact (grownBy_putObj' W D (.deferred none)).block q (oT O3.out q e) (fun e=>by cases e;unfold Bk at hbc;rw [hbc] at hK;cases hK)
  ·rw [HWB.out];exact h5.trans (belowK_b (w:=W0) (by omega) W D _ _ hD hK rfl rfl)
theorem sumOf_1 (w:World):Calls Tryz.prog 148 #[.int .i64 1] w fun e w'=>e= .returned (.tuple #[.func (.func 198) #[] #[], .bool true])/\Below w.heap.size w w':=by
 go_enter Tryz.func148,Tryz.ntmps148;go_wp2_with fail;refine bodyPost_ret (by simp [results,Tryz.results148,go_sem];try rfl) rfl ?_;exact ⟨rfl,Below.refl _ _⟩
theorem sumOf_2 (w:World):Calls Tryz.prog 148 #[.int .i64 2] w fun e w'=>e= .returned (.tuple #[.func (.func 199) #[] #[], .bool true])/\Below w.heap.size w w':=by
 go_enter Tryz.func148,Tryz.ntmps148;go_wp2_with fail;refine bodyPost_ret (by simp [results,Tryz.results148,go_sem];try rfl) rfl ?_;exact ⟨rfl,Below.refl _ _⟩
theorem sumOf_3 (w:World):Calls Tryz.prog 148 #[.int .i64 3] w fun e w'=>e= .returned (.tuple #[.func (.func 200) #[] #[], .bool true])/\Below w.heap.size w w':=by
 go_enter Tryz.func148,Tryz.ntmps148;go_wp2_with fail;refine bodyPost_ret (by simp [results,Tryz.results148,go_sem];try rfl) rfl ?_;exact ⟨rfl,Below.refl _ _⟩
theorem sumRows_of (kind:Int) (fn:Nat) (eg:∀ args w,(callFunc fn args).run Tryz.prog w= .ok (.enter fn args) w) (hset:∀ (v:Value) (s:List It) (W:World),Is W v s->Calls Tryz.prog fn #[v] W fun e w'=>∃ o:Value,e= .returned o/\OwnI w' W.heap.size o (sumK kind s)/\Below W.heap.size W w')
  (v:Value) (l:List Rw) (w:World) (h:Rs w v l) (hk:rokB l=true) :
  Calls Tryz.prog 174 #[v, .func (.func fn) #[] #[]] w fun e w'=>∃ o:Value,e= .returned o/\OwnR w' w.heap.size o (fsumR kind l)/\Below w.heap.size w w':=by
 have HI:Hid (Rs w v l):=h;have hll:=rLz hk;have HC:Hid (∀ (key:Int) (W:World) (u:Value),Rs W u (rowsK l key)->Calls Tryz.prog 224 #[u, .func (.func fn) #[] #[]] W fun e w'=>∃ o:Value,e= .returned o/\OwnR w' W.heap.size o (chgL kind (rowsK l key))/\Below W.heap.size W w'):=fun key W u hR=>by
  obtain ⟨a,cap,rfl,-⟩:=Rs.open hR;exact callsIn_wide.1 (changes_any kind fn eg hset a cap (rowsK l key) W (rowsK_ok hk key) hR)
 have HL:Hid (∀ k,(accG (fun k=>chgL kind (rowsK l k)) k).length<=k*102400):=accG_len fun k=>chgL_len kind (rowsK l k);have HL1:Hid (∀ k,(chgL kind (rowsK l k)).length<=102400):=fun k=>chgL_len kind (rowsK l k);have H4:Hid (accG (fun k=>chgL kind (rowsK l k)) 4=fsumR kind l):=accG_four kind l;clear h hset;go_enter Tryz.func174,Tryz.ntmps174;go_wp2_with fail
 go_loopw [5,7] (fun o i wr=>∃ k:Nat,k<=4/\i= .int .i64 k/\OwnR wr w.heap.size o (accG (fun k=>chgL kind (rowsK l k)) k)/\Below w.heap.size w wr) (fun _ i _=>4-(intOf i).toNat)
 case atStart=>exact ⟨0,by omega,rfl,oN _ _ _ _ _,Below.refl _ _⟩
 case round =>
  obtain ⟨k,hk4,rfl,hown,hb⟩:=hrel;have HO:Hid (OwnR wr w.heap.size u5 (accG (fun k=>chgL kind (rowsK l k)) k)):=hown;clear hown;have hsz:=hb.size
  by_cases hlt:k<4
  ·have ik:(k:Int)<4:=by omega
   go_wp2_with fail;refine (rowsOf_any _ l k _ (HI.out.keep hb) hll).mono ?_;rintro e w3 ⟨o3,rfl,own3,hb3⟩;have R3:Rs w3 o3 (rowsK l k):=OwnR.rs own3 (by have:=rowsK_len l k;omega);have hbn3:=bSz hb hb3;have HO3:Hid (OwnR w3 w.heap.size u5 (accG (fun k=>chgL kind (rowsK l k)) k)):=oK HO.out hb3;clear own3 HO hb hb3;go_wp2_with fail;refine (HC.out k w3 o3 R3).mono ?_;rintro e w4 ⟨o4,rfl,own4,hb4⟩;have h1:=HL.out k;have h2:=HL1.out k;have is4:=OwnR.rs own4 (by omega);have hbn4:=bSz hbn3 hb4;have hsn4:=hbn4.size;have O4:OwnR w4 w.heap.size u5 (accG (fun k=>chgL kind (rowsK l k)) k):=oK HO3.out hb4;have HZ:Hid (accG (fun k=>chgL kind (rowsK l k)) (k+1)=accG (fun k=>chgL kind (rowsK l k)) k++chgL kind (rowsK l k)):=rfl;clear HO3 hb4 own4 R3 hbn3;generalize accG (fun k=>chgL kind (rowsK l k)) k=LL at *;generalize chgL kind (rowsK l k)=MM at *
   go_wp2_with (at_builtin;refine appRs _ rfl _ _ rfl w.heap.size _ LL rfl O4 _ MM rfl is4 (by omega) (by omega) ?_;intro v5 w5 own5 hg5)
   have hb5:Below w.heap.size w w5:=Below.grew hbn4 hg5 (by omega) (oB O4);exact ⟨⟨k+1,by omega,by go_num,by rw [HZ.out];exact own5,hb5⟩,by simp [intOf];omega⟩
  ·obtain rfl:k=4:=by omega
   rw [H4.out] at HO;go_wp2_with fail;go_ret;exact ⟨_,rfl,HO.out,hb⟩
structure SumIs (kind:Int) (fn:Nat):Prop where
 of:∀ W,Calls Tryz.prog 148 #[.int .i64 kind] W fun e w'=>e= .returned (.tuple #[.func (.func fn) #[] #[], .bool true])/\Below W.heap.size W w'
 eg:∀ args w,(callFunc fn args).run Tryz.prog w= .ok (.enter fn args) w
 sum:∀ (v:Value) (s:List It) (W:World),Is W v s->Calls Tryz.prog fn #[v] W fun e w'=>∃ o:Value,e= .returned o/\OwnI w' W.heap.size o (sumK kind s)/\Below W.heap.size W w'
theorem sum_is {kind:Int} (hw:inB kind 1 3=true):∃ fn,SumIs kind fn:=by
 have h':kind=1\/kind=2\/kind=3:=by simp [inB] at hw;omega
 rcases h' with rfl|rfl|rfl
 ·exact ⟨198,sumOf_1,enters_of Tryz.func198 (by kernel_rfl) rfl,fun v s W h=>by rw [<- sum_count];exact implSetCount_any v s W h⟩
 ·exact ⟨199,sumOf_2,enters_of Tryz.func199 (by kernel_rfl) rfl,fun v s W h=>by rw [<- sum_once];exact implSetOnce_any v s W h⟩
 ·exact ⟨200,sumOf_3,enters_of Tryz.func200 (by kernel_rfl) rfl,fun v s W h=>by rw [<- sum_least];exact implSetLeast_any v s W h⟩
theorem sumRows_any {kind:Int} {fn:Nat} (H:SumIs kind fn) (v:Value) (l:List Rw) (w:World) (h:Rs w v l) (hk:rokB l=true) :
  Calls Tryz.prog 174 #[v, .func (.func fn) #[] #[]] w fun e w'=>∃ o:Value,e= .returned o/\OwnR w' w.heap.size o (fsumR kind l)/\Below w.heap.size w w':=sumRows_of kind fn H.eg H.sum v l w h hk
end Go.Proofs.YtbdpcngcbnoioaaGreatDoor
