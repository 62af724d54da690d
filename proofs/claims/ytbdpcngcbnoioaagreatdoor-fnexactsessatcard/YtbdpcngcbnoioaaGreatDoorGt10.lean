import Derived.Test.YtbdpcngcbnoioaaGreatDoorGtX
set_option maxRecDepth 100000
set_option maxHeartbeats 8000000
namespace Go.Proofs.YtbdpcngcbnoioaaGreatDoor
open Go.RowKit
theorem clear_items {w:World} {g i n cap:Nat} {c:Array Value} (h:Bk w g c 98) (hs:c.size=cap*3) (hi:i<n) (hn:n<=cap) (c0:Nat) :
  ∃ w' c',(∀ ty,(Builtin.clear_ #[35] ty #[.slice (some ⟨g,i*3,none⟩) (n-i) c0]).run Tryz.prog w= .ok (.tuple #[]) w')/\Bk w' g c' 98/\c'.size=c.size/\(∀ j,j<i*3->c'[j]?=c[j]?)/\Bx g w w':=by
 have hv:∀ w,(zeroValue 98).run Tryz.prog w= .ok (.agg #[.int .i64 0, .int .i64 0, .int .i64 0]) w:=fun w=>Tryz.zeroValue98 w;have hcs:(Value.agg #[.int .i64 0, .int .i64 0, .int .i64 0]).cells=#[.int .i64 0, .int .i64 0, .int .i64 0]:=by simp [Value.cells]
 obtain ⟨c',h1,h2,h3,h4⟩:=h.setCells (Builtin.zeroCells (Value.agg #[.int .i64 0, .int .i64 0, .int .i64 0]).cells (n-i)).toList (i*3);refine ⟨_,c',fun ty=>?_,h1,h2,h3,h4⟩;have hlen:(Builtin.zeroCells (Value.agg #[.int .i64 0, .int .i64 0, .int .i64 0]).cells (n-i)).toList.length=(n-i)*3:=by simp [Builtin.zeroCells,hcs]
 have hst:=run_storeCells_cells (P:=Tryz.prog) g (i*3) (Builtin.zeroCells (Value.agg #[.int .i64 0, .int .i64 0, .int .i64 0]).cells (n-i)).toList 0 w
  (fun j hj=>by rw [hlen] at hj;rw [Nat.add_zero,h.cell (Array.getElem?_eq_getElem (show i*3+j<c.size by omega))];rfl) (fun j _=>h.free _)
  (fun v hv=>by
   rw [hcs] at hv;simp [Builtin.zeroCells] at hv;obtain ⟨a,_,rfl⟩:=hv;have:a%3=0\/a%3=1\/a%3=2:=by omega
   rcases this with e|e|e<;>simp [e]<;>rfl)
 simp only [Nat.add_zero] at hst;obtain ⟨m,hm⟩:∃ m,n-i=m+1:=⟨n-i-1,by omega⟩;rw [hm] at hst ⊢;simp [Builtin.clear_,run_underlying Tryz.underlying35,hv,hst]
theorem slice_fromI (g i n cap:Nat) (hi:i<n) (hn:n<=cap) (u:World):(Instr.slice 35 (.slice (some ⟨g,0,none⟩) n cap) (some (.int .i64 i)) Option.none Option.none).run Tryz.prog u= .ok (.slice (some ⟨g,i*3,none⟩) (n-i) (cap-i)) u:=by
 have ht:Tryz.prog.underlying 35=some (.slice (Tryz.prog.elem 35)):=by kernel_rfl
 have hs:∀ u:World,(sizeOf (Tryz.prog.elem 35)).run Tryz.prog u= .ok 3 u:=fun u=>by kernel_rfl
 rw [run_slice_l (P:=Tryz.prog) u 35 _ _ _ ht .i64 i (by omega) (by omega),hs u];have hne:¬ cap=i:=by omega
 simp [Result.andThen,sliced,Addr.add,hne];omega
theorem slice_uptoI (g i n cap:Nat) (hi:i<=n) (hn:n<=cap) (u:World):(Instr.slice 35 (.slice (some ⟨g,0,none⟩) n cap) Option.none (some (.int .i64 i)) Option.none).run Tryz.prog u= .ok (.slice (some ⟨g,0,none⟩) i cap) u:=by
 have ht:Tryz.prog.underlying 35=some (.slice (Tryz.prog.elem 35)):=by kernel_rfl
 have hs:∀ u:World,(sizeOf (Tryz.prog.elem 35)).run Tryz.prog u= .ok 3 u:=fun u=>by kernel_rfl
 rw [run_slice_h (P:=Tryz.prog) u 35 _ _ _ ht .i64 i (by omega) (by omega),hs u];simp [Result.andThen,sliced,Addr.add]
theorem keyEq_any {K V D K' V' D':Int} {b:Bool} (hK:(K==K')=b) (w:World) :
  Calls Tryz.prog 237 #[iv K V D,iv K' V' D'] w fun e w'=>e= .returned (.bool b)/\Below w.heap.size w w':=by
 have b1:=(Bk.new (w:=w) #[.int .i64 K, .int .i64 V, .int .i64 D] 98 rfl).alloc (.cells #[.int .i64 K', .int .i64 V', .int .i64 D'] 98);have b2:=Bk.new (w:=w.alloc (.cells #[.int .i64 K, .int .i64 V, .int .i64 D] 98)) #[.int .i64 K', .int .i64 V', .int .i64 D'] 98 rfl;have hb:=bAz (bAz (Below.refl w.heap.size w) (.cells #[.int .i64 K, .int .i64 V, .int .i64 D] 98)) (.cells #[.int .i64 K', .int .i64 V', .int .i64 D'] 98);obtain ⟨p0,_,_⟩:=b1.three;obtain ⟨q0,_,_⟩:=b2.three;simp only [World.size_alloc] at q0;go_enter Tryz.func237,Tryz.ntmps237;go_wp2_with fail;go_ret;exact ⟨rfl,hb⟩
theorem compactNI_any (w:World):Calls Tryz.prog 236 #[.slice none 0 0, .func (.func 237) #[] #[]] w fun e w'=>e= .returned (.slice none 0 0)/\Below w.heap.size w w':=by
 go_enter Tryz.func236,Tryz.ntmps236;go_wp2_with fail;go_ret;exact ⟨rfl,Below.refl _ _⟩
theorem Bk.setAt3 {w:World} {g:Nat} {c:Array Value} {t:TypeId} (h:Bk w g c t) (i:Nat) (x y z:Value) :
  Bk (((w.setCell ⟨g,i,none⟩ x).setCell ⟨g,i+1,none⟩ y).setCell ⟨g,i+2,none⟩ z) g (((c.setIfInBounds i x).setIfInBounds (i+1) y).setIfInBounds (i+2) z) t:=((h.set i x).set (i+1) y).set (i+2) z
theorem compactI_any (g cap:Nat) (c:Array Value) (l:List It) (w:World) (h:Bk w g c 98) (hs:c.size=cap*3) (hc:l.length<=cap) (hm:cap<=maxLen) (hn:l.length<=2097152) (hfill:FillK itC 3 c l l.length) :
  Calls Tryz.prog 236 #[.slice (some ⟨g,0,none⟩) l.length cap, .func (.func 237) #[] #[]] w fun e w' =>
   ∃ c':Array Value,e= .returned (.slice (some ⟨g,0,none⟩) (cpI l l.length).length cap)/\Bk w' g c' 98/\c'.size=cap*3/\FillK itC 3 c' (cpI l l.length) (cpI l l.length).length/\Bx g w w':=by
 have HF:Hid (FillK itC 3 c l l.length):=hfill;have HS:Hid (c.size=cap*3):=hs;have HM:Hid (cap<=maxLen):=hm;unfold maxLen at hm;clear hfill
 by_cases h2:l.length<2
 ·have e:Hid (cpI l l.length=l):=by
   show _=_
   rw [cpI_all (Nat.le_refl _) (fun j hj=>kpI_one (by omega)),List.take_length]
  have ih:((l.length:Int)<2):=by omega
  go_enter Tryz.func236,Tryz.ntmps236;go_wp2_with fail;go_ret;rw [e.out];exact ⟨c,rfl,h,HS.out,HF.out,Bx.refl _ _⟩
 ·have ih:¬ ((l.length:Int)<2):=by omega
  go_enter Tryz.func236,Tryz.ntmps236;go_wp2_with fail
  go_loopw [5] (fun b wr=>∃ k:Nat,1<=k/\k<=l.length/\b= .int .i64 k/\(∀ j,j<k->kpI l j=true)/\Below w.heap.size w wr) (fun b _=>l.length-(intOf b).toNat)
  case atStart=>exact ⟨1,by omega,by omega,rfl,fun j hj=>kpI_one hj,Below.refl _ _⟩
  case round =>
   obtain ⟨k,hk1,hk,rfl,hall,hb⟩:=hrel;have HA:Hid (∀ j,j<k->kpI l j=true):=hall;clear hall;have hbk:=h.keep hb
   by_cases hlt:k<l.length
   ·have ik:((k:Int)<(l.length:Int)):=by omega
    have ikw:IntKind.i64.wrap ((k:Int)-1)=((k-1:Nat):Int):=by rw [IntKind.wrap_i64]<;>omega
    have ik1:(((k-1:Nat):Int)<(l.length:Int)):=by omega
    obtain ⟨⟨⟨K,V⟩,D⟩,hgk⟩:∃ r,gI l k=r:=⟨_,rfl⟩;obtain ⟨⟨⟨K',V'⟩,D'⟩,hgk'⟩:∃ r,gI l (k-1)=r:=⟨_,rfl⟩;have EX:Hid ((gI l k).1.1=K/\(gI l (k-1)).1.1=K'):=⟨by rw [hgk],by rw [hgk']⟩;have HX:Hid (∀ W,Below w.heap.size w W->(fun W=>W.cell? ⟨g,k*3,none⟩=some (.int .i64 K)/\W.cell? ⟨g,k*3+1,none⟩=some (.int .i64 V)/\W.cell? ⟨g,k*3+2,none⟩=some (.int .i64 D)/\W.cell? ⟨g,(k-1)*3,none⟩=some (.int .i64 K')/\W.cell? ⟨g,(k-1)*3+1,none⟩=some (.int .i64 V')/\W.cell? ⟨g,(k-1)*3+2,none⟩=some (.int .i64 D')) W):=fun W hW=>by
     have hB:=h.keep hW;have f1:=HF.out k _ hlt (gI_at hlt);have f2:=HF.out (k-1) _ (by omega) (gI_at (show k-1<l.length by omega));rw [hgk] at f1;rw [hgk'] at f2;exact ⟨hB.cell (f1 0 (by omega)),hB.cell (f1 1 (by omega)),hB.cell (f1 2 (by omega)),hB.cell (f2 0 (by omega)),hB.cell (f2 1 (by omega)),hB.cell (f2 2 (by omega))⟩
    have hbD:=hb.drew;clear hgk hgk';obtain ⟨c0,c1,c2,c3,c4,c5⟩:=HX.out _ hb;cases hne:(K==K')
    ·have HN:Hid (∀ j,j<k+1->kpI l j=true):=fun j hj=>by
      by_cases e:j=k
      ·subst e;exact kpI_yes fun e=>by rw [EX.out.1,EX.out.2] at e;rw [e] at hne;simp at hne
      ·exact HA.out j (by omega)
     clear HA EX;go_wp2_with fail
     go_region_held3 (fun W=>W.cell? ⟨g,k*3,none⟩=some (.int .i64 K)/\W.cell? ⟨g,k*3+1,none⟩=some (.int .i64 V)/\W.cell? ⟨g,k*3+2,none⟩=some (.int .i64 D)/\W.cell? ⟨g,(k-1)*3,none⟩=some (.int .i64 K')/\W.cell? ⟨g,(k-1)*3+1,none⟩=some (.int .i64 V')/\W.cell? ⟨g,(k-1)*3+2,none⟩=some (.int .i64 D'))
      (first|exact HX.out _ hbD|exact HX.out _ hba)
      (first
       | (go_at_call 237;with_reducible refine (keyEq_any hne _).mono ?_;rintro e wa ⟨rfl,hbc⟩;have hba:Below w.heap.size w wa:=bSz hbD hbc))
     go_wp2_with fail;go_roundw
     case rel=>exact ⟨k+1,by omega,by omega,by go_num,HN.out,hba⟩
     case measure=>simp [intOf];omega
    ·have hsf:=slice_fromI g k l.length cap hlt hc;have HI:Hid (CpI l k (k+1) c):=CpI.start hlt (kpI_no (by omega) (by rw [EX.out.1,EX.out.2];simpa using hne)) HA.out HF.out;clear HA EX;go_wp2_with fail
     go_region_held3 (fun W=>W.cell? ⟨g,k*3,none⟩=some (.int .i64 K)/\W.cell? ⟨g,k*3+1,none⟩=some (.int .i64 V)/\W.cell? ⟨g,k*3+2,none⟩=some (.int .i64 D)/\W.cell? ⟨g,(k-1)*3,none⟩=some (.int .i64 K')/\W.cell? ⟨g,(k-1)*3+1,none⟩=some (.int .i64 V')/\W.cell? ⟨g,(k-1)*3+2,none⟩=some (.int .i64 D'))
      (first|exact HX.out _ hbD|exact HX.out _ hba)
      (first
       | (go_at_call 237;with_reducible refine (keyEq_any hne _).mono ?_;rintro e wa ⟨rfl,hbc⟩;have hba:Below w.heap.size w wa:=bSz hbD hbc))
     have hbka:=h.keep hba;go_wp2_with fail
     go_loopw [5,7] (fun a b wr=>∃ (i q:Nat) (c':Array Value),a= .int .i64 i/\b= .int .i64 q/\1<=q/\k+q<=l.length/\Hid (CpI l i (k+q) c')/\Bk wr g c' 98/\c'.size=cap*3/\Bx g w wr) (fun _ b _=>l.length-(intOf b).toNat)
     case atStart=>exact ⟨k,1,c,rfl,rfl,by omega,by omega,HI,hbka,HS.out,Bx.of_below hba⟩
     case round =>
      clear c0 c1 c2 c3 c4 c5 hbk hbka HX;obtain ⟨i,q,c',rfl,rfl,hq1,hq,HI2,hk2,hs2,hx2⟩:=hrel;have hij:=HI2.out.lt
      by_cases hlt2:k+q<l.length
      ·have ik2:((q:Int)<(l.length:Int)-(k:Int)):=by omega
       have iqw:IntKind.i64.wrap ((q:Int)-1)=((q-1:Nat):Int):=by rw [IntKind.wrap_i64]<;>omega
       have iq1:(((q-1:Nat):Int)<(l.length:Int)-(k:Int)):=by omega
       have iq2:((q:Int)-1<(l.length:Int)-(k:Int)):=by omega
       have iq3:(((q-1:Nat):Int)<((l.length-k:Nat):Int)):=by omega
       have iq4:q-1<l.length-k:=by omega
       obtain ⟨⟨⟨U,X⟩,Y⟩,hgk⟩:∃ r,gI l (k+q)=r:=⟨_,rfl⟩;obtain ⟨⟨⟨U',X'⟩,Y'⟩,hgk'⟩:∃ r,gI l (k+q-1)=r:=⟨_,rfl⟩;have HG:Hid (gI l (k+q)=((U,X),Y)):=hgk;have EX:Hid ((gI l (k+q)).1.1=U/\(gI l (k+q-1)).1.1=U'):=⟨by rw [hgk],by rw [hgk']⟩;have HX:Hid (∀ W,Below wr.heap.size wr W->(fun W=>W.cell? ⟨g,k*3+q*3,none⟩=some (.int .i64 U)/\W.cell? ⟨g,k*3+q*3+1,none⟩=some (.int .i64 X)/\W.cell? ⟨g,k*3+q*3+2,none⟩=some (.int .i64 Y)/\W.cell? ⟨g,k*3+(q-1)*3,none⟩=some (.int .i64 U')/\W.cell? ⟨g,k*3+(q-1)*3+1,none⟩=some (.int .i64 X')/\W.cell? ⟨g,k*3+(q-1)*3+2,none⟩=some (.int .i64 Y')) W):=fun W hW=>by
        have hB:=hk2.keep hW;have f1:=HI2.out.high (k+q) (by omega) hlt2;have f2:=HI2.out.high (k+q-1) (by omega) (by omega);rw [hgk,show (k+q)*3=k*3+q*3 by omega] at f1;rw [hgk',show (k+q-1)*3=k*3+(q-1)*3 by omega] at f2;exact ⟨hB.cell (f1 0 (by omega)),hB.cell (f1 1 (by omega)),hB.cell (f1 2 (by omega)),hB.cell (f2 0 (by omega)),hB.cell (f2 1 (by omega)),hB.cell (f2 2 (by omega))⟩
       have hbD2:Below wr.heap.size wr wr.drew:=(Below.refl _ _).drew;clear hgk hgk';obtain ⟨d0,d1,d2,d3,d4,d5⟩:=HX.out _ (Below.refl _ _);cases hne2:(U==U')
       ·have HN:Hid (CpI l (i+1) (k+(q+1)) (((c'.setIfInBounds (i*3) (.int .i64 U)).setIfInBounds (i*3+1) (.int .i64 X)).setIfInBounds (i*3+2) (.int .i64 Y))) :=
         HI2.out.keep hlt2 (by omega) (kpI_yes fun e=>by rw [EX.out.1,EX.out.2] at e;rw [e] at hne2;simp at hne2) HG.out
        clear HI2 EX;go_wp2_with fail
        go_region_held3 (fun W=>W.cell? ⟨g,k*3+q*3,none⟩=some (.int .i64 U)/\W.cell? ⟨g,k*3+q*3+1,none⟩=some (.int .i64 X)/\W.cell? ⟨g,k*3+q*3+2,none⟩=some (.int .i64 Y)/\W.cell? ⟨g,k*3+(q-1)*3,none⟩=some (.int .i64 U')/\W.cell? ⟨g,k*3+(q-1)*3+1,none⟩=some (.int .i64 X')/\W.cell? ⟨g,k*3+(q-1)*3+2,none⟩=some (.int .i64 Y'))
         (first|exact HX.out _ hbD2|exact HX.out _ hba2)
         (first
          | (go_at_call 237;with_reducible refine (keyEq_any hne2 _).mono ?_;rintro e wa2 ⟨rfl,hbc2⟩;have hba2:Below wr.heap.size wr wa2:=bSz hbD2 hbc2))
        have hk3:=hk2.keep hba2;clear d0 d1 d2 d3 d4 d5;obtain ⟨d0,d1,d2,-,-,-⟩:=HX.out _ hba2;obtain ⟨y0,q0⟩:=cell_bk hk3 (i:=i*3) (by omega);obtain ⟨y1,q1⟩:=cell_bk hk3 (i:=i*3+1) (by omega);obtain ⟨y2,q2⟩:=cell_bk hk3 (i:=i*3+2) (by omega);have f0:=hk3.free (i*3);have f1:=hk3.free (i*3+1);have f2:=hk3.free (i*3+2);have hx3:Bx g w wa2:=hx2.trans (Bx.of_below hba2);have iil:((i:Int)<(l.length:Int)):=by omega
        go_wp2_with fail;go_roundw
        case rel =>
         exact ⟨i+1,q+1,_,by go_num,by go_num,by omega,by omega,HN,hk3.setAt3 (i*3) _ _ _,by simpa using hs2,((hx3.setG rfl _).setG rfl _).setG rfl _⟩
        case measure=>simp [intOf];omega
       ·have HN:Hid (CpI l i (k+(q+1)) c'):=HI2.out.skip hlt2 (kpI_no (by omega) (by rw [EX.out.1,EX.out.2];simpa using hne2));clear HI2 EX;go_wp2_with fail
        go_region_held3 (fun W=>W.cell? ⟨g,k*3+q*3,none⟩=some (.int .i64 U)/\W.cell? ⟨g,k*3+q*3+1,none⟩=some (.int .i64 X)/\W.cell? ⟨g,k*3+q*3+2,none⟩=some (.int .i64 Y)/\W.cell? ⟨g,k*3+(q-1)*3,none⟩=some (.int .i64 U')/\W.cell? ⟨g,k*3+(q-1)*3+1,none⟩=some (.int .i64 X')/\W.cell? ⟨g,k*3+(q-1)*3+2,none⟩=some (.int .i64 Y'))
         (first|exact HX.out _ hbD2|exact HX.out _ hba2)
         (first
          | (go_at_call 237;with_reducible refine (keyEq_any hne2 _).mono ?_;rintro e wa2 ⟨rfl,hbc2⟩;have hba2:Below wr.heap.size wr wa2:=bSz hbD2 hbc2))
        have hk3:=hk2.keep hba2;go_wp2_with fail;go_roundw
        case rel=>exact ⟨i,q+1,c',rfl,by go_num,by omega,by omega,HN,hk3,hs2,hx2.trans (Bx.of_below hba2)⟩
        case measure=>simp [intOf];omega
      ·have hend:k+q=l.length:=by omega
       obtain ⟨w3,c3,hcl,b3,s3,l3,x3⟩:=clear_items (n:=l.length) hk2 hs2 (i:=i) (by omega) hc (cap-i);have hsf2:=slice_fromI g i l.length cap (by omega) hc;have hsu:=slice_uptoI g i l.length cap (by omega) hc;have ik2:¬ ((q:Int)<(l.length:Int)-(k:Int)):=by omega
       have L3:=(show Hid _ from l3);clear l3;go_wp2_with fail;go_ret;have hI:=HI2.out;rw [hend] at hI;have e2:=hI.len;refine ⟨by rw [e2];rfl,c3,b3,by rw [s3];exact hs2,?_,hx2.trans x3⟩;rw [e2];intro z x hz hx y hy;rw [L3.out _ (by omega)];exact hI.low z x hz hx y hy
   ·obtain rfl:k=l.length:=by omega
    have ik:¬ ((l.length:Int)<(l.length:Int)):=by omega
    have e:Hid (cpI l l.length=l):=by
     show _=_
     rw [cpI_all (Nat.le_refl _) HA.out,List.take_length]
    go_wp2_with fail;go_ret;rw [e.out];exact ⟨rfl,c,hbk,HS.out,HF.out,Bx.of_below hb⟩
theorem implSetLeast_any (v:Value) (l:List It) (w:World) (h:Is w v l) :
  Calls Tryz.prog 200 #[v] w fun e w'=>∃ o:Value,e= .returned o/\OwnI w' w.heap.size o (leastS l)/\Below w.heap.size w w':=by
 have HL:Hid (cpI (onceS l) (onceS l).length=leastS l):=by
  show _=_
  cases hk:sokB l
  ·rw [onceS_no hk,leastS_no hk];rfl
  ·rw [onceS_yes hk];exact cp_least hk
 have hO:=onceS_len l;go_enter Tryz.func200,Tryz.ntmps200;go_wp2_with fail;refine (implSetOnce_any v l w h).mono ?_;rintro e w1 ⟨o,rfl,own1,hb1⟩;generalize onceS l=m at *
 rcases ownK_open own1 itC_len with ⟨rfl,rfl⟩|⟨g,cap,c,rfl,hg,hb,hcs,hc,hm,hf⟩
 ·go_wp2_with fail;refine (compactNI_any w1).mono ?_;rintro e w2 ⟨rfl,hb2⟩;go_wp2_with fail;go_ret;refine ⟨_,rfl,?_,bSz hb1 hb2⟩;rw [<- HL.out];exact oN _ _ _ _ _
 ·have HF:Hid (FillK itC 3 c m m.length):=hf;clear hf own1;go_wp2_with fail;refine (compactI_any g cap c m w1 hb hcs hc hm (by omega) HF.out).mono ?_;rintro e w2 ⟨c',rfl,hb2,hcs2,hf2,hx2⟩;have HF2:=(show Hid _ from hf2);clear hf2;go_wp2_with fail;go_ret;have hcl:(cpI m m.length).length<=m.length:=(cpI_sub m).length_le;refine ⟨_,rfl,?_,hx2.below hb1 hb1.size hg⟩;rw [<- HL.out];exact ownK_of_fill hb2 HF2.out itC_len hcs2 (by omega) hm hg
end Go.Proofs.YtbdpcngcbnoioaaGreatDoor
