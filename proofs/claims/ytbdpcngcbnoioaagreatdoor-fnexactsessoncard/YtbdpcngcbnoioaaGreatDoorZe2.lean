import Derived.Test.YtbdpcngcbnoioaaGreatDoorZe1
import Derived.Test.YtbdpcngcbnoioaaGreatDoorZs1
import Derived.Test.YtbdpcngcbnoioaaGreatDoorFr25
set_option maxRecDepth 100000
set_option maxHeartbeats 4000000
namespace Go.Proofs.YtbdpcngcbnoioaaGreatDoor
open Go.RowKit
structure Bz (lo hi:Nat) (w w':World):Prop where
 os:w'.os=w.os
 tape:w'.tape=w.tape
 output:w'.output=w.output
 size:w.heap.size<=w'.heap.size
 block:∀ k,k<w.heap.size->(k<lo\/hi<=k)->w'.heap[k]?=w.heap[k]?
theorem Bz.refl (lo hi:Nat) (w:World):Bz lo hi w w:=⟨rfl,rfl,rfl,Nat.le_refl _,fun _ _ _=>rfl⟩
theorem Bz.trans {lo hi:Nat} {a b c:World} (h:Bz lo hi a b) (k:Bz lo hi b c):Bz lo hi a c :=
 ⟨k.os.trans h.os,k.tape.trans h.tape,k.output.trans h.output,Nat.le_trans h.size k.size,fun i hi hg=>(k.block i (Nat.lt_of_lt_of_le hi h.size) hg).trans (h.block i hi hg)⟩
theorem Bz.of_bx {lo hi g:Nat} {w w':World} (h:Bx g w w') (h1:lo<=g) (h2:g<hi):Bz lo hi w w':=⟨h.os,h.tape,h.output,h.size,fun k hk hg=>h.block k hk (by omega)⟩
theorem Bz.of_below {lo hi:Nat} {w w':World} (h:Below w.heap.size w w'):Bz lo hi w w':=⟨h.os,h.tape,h.output,h.size,fun k hk _=>h.block k hk⟩
theorem Bz.below {lo hi n:Nat} {w0 w w':World} (h:Bz lo hi w w') (h0:Below n w0 w) (hn:n<=w.heap.size) (hl:n<=lo):Below n w0 w' :=
 h0.trans ⟨h.os,h.tape,h.output,h.size,fun k hk=>h.block k (by omega) (by omega)⟩
theorem Bk.keepz {lo hi:Nat} {w w1:World} {k:Nat} {c:Array Value} {t:TypeId} (h:Bk w k c t) (hb:Bz lo hi w w1) (hk:k<lo\/hi<=k):Bk w1 k c t:=by
 unfold Bk;rw [hb.block k h.lt hk];exact h
theorem Bk.under {N:Nat} {w w1:World} {k:Nat} {c:Array Value} {t:TypeId} (h:Bk w k c t) (hb:Below N w w1) (hk:k<N):Bk w1 k c t:=by
 unfold Bk;rw [hb.block k hk];exact h
def MkS (w:World) (c:Array Value) (G:Nat->Nat) (L:List (List Rw)):Prop :=
 ∀ i,i<L.length->∃ ci,c[i]?=some (.slice (some ⟨G i,0,none⟩) (gl L i).length (gl L i).length)/\Bk w (G i) ci 55/\ci.size=(gl L i).length*5
theorem flat_leZ (L:List (List Rw)) (k:Nat):(L.take k).flatten.length<=L.flatten.length:=by
 conv=>rhs;rw [<- List.take_append_drop k L]
 rw [List.flatten_append,List.length_append];omega
theorem markRowSS_any (g B hi:Nat) (c:Array Value) (G:Nat->Nat) (L:List (List Rw)) (a:Int) (w:World) (hbk:Bk w g c 28) (hcs:c.size=L.length) (hmd:MdS w B c G L L.length) (hgB:g<B) (hhi:∀ i,i<L.length->G i<hi) (hn:L.length<=1048576) (hf:L.flatten.length<=1048576) (h0:0<=a) (h1:a<=10000000) :
  Calls Tryz.prog 119 #[.slice (some ⟨g,0,none⟩) L.length L.length, .int .i64 a] w fun e w'=>e= .returned (.int .i64 (a+5*(L.flatten.length:Int)))/\Bz B hi w w':=by
 have HD:Hid (∀ i j,i<L.length->j<L.length->i≠j->G i≠G j):=fun i j hi hj hij e=>by
  rcases Nat.lt_or_gt_of_ne hij with h|h
  ·have:=hmd.1 i j h hj;omega
  ·have:=hmd.1 j i h hi;omega
 have HG:Hid (∀ i,i<L.length->B<=G i/\G i<hi):=fun i hi'=>⟨(hmd.lt hi').1,hhi i hi'⟩;have HM:Hid (MkS w c G L):=fun i hi'=>by obtain ⟨ci,h1,_,h3,h4,_⟩:=hmd.2 i hi';exact ⟨ci,h1,h3,h4⟩
 clear hmd hhi;go_enter Tryz.func119,Tryz.ntmps119;go_wp2_with fail
 go_loopw [1,5] (fun q i wr=>∃ k:Nat,k<=L.length/\i= .int .i64 k/\q= .int .i64 (a+5*((L.take k).flatten.length:Int))/\MkS wr c G L/\Bk wr g c 28/\Bz B hi w wr) (fun _ i _=>L.length-(intOf i).toNat)
 case atStart=>exact ⟨0,by omega,rfl,by simp,HM.out,hbk,Bz.refl _ _ _⟩
 case round =>
  clear HM;obtain ⟨k,hk,rfl,rfl,hmk,hb,hz⟩:=hrel;have HK:=(show Hid (MkS wr c G L) from hmk);have hle:=flat_leZ L k
  by_cases hlt:k<L.length
  ·obtain ⟨ck,h2,h3,h4⟩:=hmk k hlt;have d0:wr.cell? ⟨g,k,none⟩=some (.slice (some ⟨G k,0,none⟩) (gl L k).length (gl L k).length):=hb.cell h2;have ik:(k:Int)<(L.length:Int):=by omega
   have HZ:Hid ((L.take (k+1)).flatten.length=(L.take k).flatten.length+(gl L k).length):=flat_take hlt;have hle2:=flat_leZ L (k+1);rw [HZ.out] at hle2;clear hmk h2;generalize hN:(L.take k).flatten.length=N at *;generalize hQ:(gl L k).length=Q at *;generalize hA:a+5*(N:Int)=A at *;go_wp2_with fail;refine (markRB_any (G k) Q Q ck A _ h3 h4 (Nat.le_refl _) (by omega) (by omega) (by omega)).mono ?_;rintro e w1 ⟨c1,rfl,bm1,hcm1,-,hx1⟩;have HN:Hid (MkS w1 c G L/\Bk w1 g c 28/\Bz B hi w w1):=by
    refine ⟨fun i hi'=>?_,hb.keepx hx1 (by have:=(HG.out k hlt).1;omega),hz.trans (Bz.of_bx hx1 (HG.out k hlt).1 (HG.out k hlt).2)⟩
    by_cases e:i=k
    ·subst e;obtain ⟨ci,q1,_,_⟩:=HK.out i hi';exact ⟨c1,q1,bm1,by rw [hQ];exact hcm1⟩
    ·obtain ⟨ci,q1,q2,q3⟩:=HK.out i hi';exact ⟨ci,q1,q2.keepx hx1 (HD.out i k hi' hlt e),q3⟩
   clear HK bm1 hcm1 hx1 hb hz h3;go_wp2_with fail;go_roundw
   case rel=>exact ⟨k+1,by omega,by go_num,by congr 1;have:=HZ.out;omega,HN.out.1,HN.out.2.1,HN.out.2.2⟩
   case measure=>simp [intOf];omega
  ·obtain rfl:k=L.length:=by omega
   rw [List.take_length];have HZ:=(show Hid (Bz B hi w wr) from hz);clear hz hb hmk HK;go_wp2_with fail;go_ret;exact ⟨rfl,HZ.out⟩
end Go.Proofs.YtbdpcngcbnoioaaGreatDoor
