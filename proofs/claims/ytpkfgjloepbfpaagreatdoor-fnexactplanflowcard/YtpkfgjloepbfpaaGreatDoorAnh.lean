import Derived.Test.YtpkfgjloepbfpaaGreatDoorZe0
import Derived.Test.YtpkfgjloepbfpaaGreatDoorZm0
import Derived.Test.YtpkfgjloepbfpaaGreatDoorGa8
import Derived.Test.YtpkfgjloepbfpaaGreatDoorAng
import Derived.Test.YtpkfgjloepbfpaaGreatDoorGlk
namespace Go.Proofs.YtpkfgjloepbfpaaGreatDoor
open Go.ChangeShapes Go.WideShapes Go.ChangeAt Go.RowKit Go.Joins
theorem RsArg.keep {w w1:World} {a:Option Addr} {len cap:Nat} (h:RsArg w a len cap) (hb:Below w.heap.size w w1):RsArg w1 a len cap:=by
 obtain ⟨h1,h2,q,h3⟩:=h;refine ⟨h1,h2,q,fun i hi=>?_⟩;obtain ⟨g,off,ha,hg,hc⟩:=h3 i hi;refine ⟨g,off,ha,Nat.lt_of_lt_of_le hg hb.size,fun j hj=>?_⟩;have e:∃ x,(rowC (q i))[j]?=some x:=⟨_,List.getElem?_eq_getElem (by rw [rowC_len];exact hj)⟩;obtain ⟨x,hx⟩:=e;rw [hx];exact cB hb (by rw [hc j hj,hx])
theorem LsArg.keep {w w1:World} {a:Option Addr} {len cap:Nat} {ns:Nat->Nat} (h:LsArg w a len cap ns) (hb:Below w.heap.size w w1):LsArg w1 a len cap ns:=by
 obtain ⟨h1,h2,h3⟩:=h;refine ⟨h1,h2,fun i hi=>?_⟩;obtain ⟨g,off,ad,cp,ha,hg,hc,hr⟩:=h3 i hi;exact ⟨g,off,ad,cp,ha,Nat.lt_of_lt_of_le hg hb.size,cB hb hc,hr.keep hb⟩
theorem flat_mem_len {L:List (List Rw)} {l:List Rw} (h:l∈L):l.length<=L.flatten.length:=by
 induction L with
 | nil=>cases h
 | cons m L ih =>
  rw [List.flatten_cons,List.length_append]
  rcases List.mem_cons.1 h with rfl|h
  ·omega
  ·have:=ih h;omega
end Go.Proofs.YtpkfgjloepbfpaaGreatDoor
namespace Go.Proofs.YtpkfgjloepbfpaaGreatDoor
open Go.RowKit Go.Shelf
theorem flat_take {L:List (List Rw)} {k:Nat} (hk:k<L.length):(L.take (k+1)).flatten.length=(L.take k).flatten.length+(gl L k).length:=by
 rw [tS (gl_at hk),List.flatten_append,List.length_append];simp
end Go.Proofs.YtpkfgjloepbfpaaGreatDoor
namespace Go.Proofs.YtpkfgjloepbfpaaGreatDoor
open Go.RowKit
end Go.Proofs.YtpkfgjloepbfpaaGreatDoor
set_option maxRecDepth 100000
set_option maxHeartbeats 4000000
namespace Go.Proofs.YtpkfgjloepbfpaaGreatDoor
open Go.RowKit
structure Bz (lo hi:Nat) (w w':World):Prop where
 os:w'.os=w.os
 tape:w'.tape=w.tape
 output:w'.output=w.output
 size:w.heap.size<=w'.heap.size
 block:∀ k,k<w.heap.size->(k<lo\/hi<=k)->w'.heap[k]?=w.heap[k]?
theorem Bz.refl (lo hi:Nat) (w:World):Bz lo hi w w:=⟨rfl,rfl,rfl,Nat.le_refl _,fun _ _ _=>rfl⟩
theorem Bz.trans {lo hi:Nat} {a b c:World} (h:Bz lo hi a b) (k:Bz lo hi b c):Bz lo hi a c :=
 ⟨k.os.trans h.os,k.tape.trans h.tape,k.output.trans h.output,Nat.le_trans h.size k.size,fun i hi hg=>(k.block i (Nat.lt_of_lt_of_le hi h.size) hg).trans (h.block i hi hg)⟩
theorem Bz.of_bx {lo hi g:Nat} {w w':World} (h:Bx g w w') (h1:lo<=g) (h2:g<hi):Bz lo hi w w':=⟨h.os,h.tape,h.output,h.size,fun k hk hg=>h.block k hk (by omega)⟩
theorem Bz.below {lo hi n:Nat} {w0 w w':World} (h:Bz lo hi w w') (h0:Below n w0 w) (hn:n<=w.heap.size) (hl:n<=lo):Below n w0 w' :=
 h0.trans ⟨h.os,h.tape,h.output,h.size,fun k hk=>h.block k (by omega) (by omega)⟩
theorem Bk.keepz {lo hi:Nat} {w w1:World} {k:Nat} {c:Array Value} {t:TypeId} (h:Bk w k c t) (hb:Bz lo hi w w1) (hk:k<lo\/hi<=k):Bk w1 k c t:=by
 unfold Bk;rw [hb.block k h.lt hk];exact h
theorem Bk.under {N:Nat} {w w1:World} {k:Nat} {c:Array Value} {t:TypeId} (h:Bk w k c t) (hb:Below N w w1) (hk:k<N):Bk w1 k c t:=by
 unfold Bk;rw [hb.block k hk];exact h
theorem ownK_besides {t:TypeId} {k:Nat} {w w1:World} {B lo hi:Nat} {v:Value} {n:Nat} {xs:List Value} (h:w.ownsRow B t k v n xs) (hb:Bz lo hi w w1) (hk:∀ b,v.ownBlock=some b->b<lo\/hi<=b):w1.ownsRow B t k v n xs :=
 oA h fun b e=>hb.block b (oT h b e) (hk b e)
def MkS (w:World) (c:Array Value) (G:Nat->Nat) (L:List (List Rw)):Prop :=
 ∀ i,i<L.length->∃ ci,c[i]?=some (.slice (some ⟨G i,0,none⟩) (gl L i).length (gl L i).length)/\Bk w (G i) ci 55/\ci.size=(gl L i).length*5
theorem flat_leZ (L:List (List Rw)) (k:Nat):(L.take k).flatten.length<=L.flatten.length:=by
 conv=>rhs;rw [<- List.take_append_drop k L]
 rw [List.flatten_append,List.length_append];omega
theorem markRowSS_any (g B hi:Nat) (c:Array Value) (G:Nat->Nat) (L:List (List Rw)) (a:Int) (w:World) (hbk:Bk w g c 28) (hcs:c.size=L.length) (hmd:MdS w B c G L L.length) (hgB:g<B) (hhi:∀ i,i<L.length->G i<hi) (hn:L.length<=1048576) (hf:L.flatten.length<=1048576) (h0:0<=a) (h1:a<=10000000) :
  Calls Tryz.prog 14 #[.slice (some ⟨g,0,none⟩) L.length L.length, .int .i64 a] w fun e w'=>e= .returned (.int .i64 (a+5*(L.flatten.length:Int)))/\Bz B hi w w':=by
 have HD:Hid (∀ i j,i<L.length->j<L.length->i≠j->G i≠G j):=fun i j hi hj hij e=>by
  rcases Nat.lt_or_gt_of_ne hij with h|h
  ·have:=hmd.1 i j h hj;omega
  ·have:=hmd.1 j i h hi;omega
 have HG:Hid (∀ i,i<L.length->B<=G i/\G i<hi):=fun i hi'=>⟨(hmd.lt hi').1,hhi i hi'⟩;have HM:Hid (MkS w c G L):=fun i hi'=>by obtain ⟨ci,h1,_,h3,h4,_⟩:=hmd.2 i hi';exact ⟨ci,h1,h3,h4⟩
 clear hmd hhi;go_enter Tryz.func14,Tryz.ntmps14;go_wp2_with fail
 go_loopw [1,5] (fun q i wr=>∃ k:Nat,k<=L.length/\i= .int .i64 k/\q= .int .i64 (a+5*((L.take k).flatten.length:Int))/\MkS wr c G L/\Bk wr g c 28/\Bz B hi w wr) (fun _ i _=>L.length-(intOf i).toNat)
 case atStart=>exact ⟨0,by omega,rfl,by simp,HM.out,hbk,Bz.refl _ _ _⟩
 case round =>
  clear HM;obtain ⟨k,hk,rfl,rfl,hmk,hb,hz⟩:=hrel;have HK:=(show Hid (MkS wr c G L) from hmk);have hle:=flat_leZ L k
  by_cases hlt:k<L.length
  ·obtain ⟨ck,h2,h3,h4⟩:=hmk k hlt;have d0:wr.cell? ⟨g,k,none⟩=some (.slice (some ⟨G k,0,none⟩) (gl L k).length (gl L k).length):=hb.cell h2;have ik:(k:Int)<(L.length:Int):=by omega
   have HZ:Hid ((L.take (k+1)).flatten.length=(L.take k).flatten.length+(gl L k).length):=flat_take hlt;have hle2:=flat_leZ L (k+1);rw [HZ.out] at hle2;clear hmk h2;generalize hN:(L.take k).flatten.length=N at *;generalize hQ:(gl L k).length=Q at *;generalize hA:a+5*(N:Int)=A at *;go_wp2_with fail;refine (markRB_any (G k) Q Q ck A _ h3 h4 (Nat.le_refl _) (by omega) (by omega) (by omega)).mono ?_;rintro e w1 ⟨c1,rfl,bm1,hcm1,-,hx1⟩;have HN:Hid (MkS w1 c G L/\Bk w1 g c 28/\Bz B hi w w1):=by
    refine ⟨fun i hi'=>?_,hb.keepx hx1 (by have:=(HG.out k hlt).1;omega),hz.trans (Bz.of_bx hx1 (HG.out k hlt).1 (HG.out k hlt).2)⟩
    by_cases e:i=k
    ·subst e;obtain ⟨ci,q1,_,_⟩:=HK.out i hi';exact ⟨c1,q1,bm1,by rw [hQ];exact hcm1⟩
    ·obtain ⟨ci,q1,q2,q3⟩:=HK.out i hi';exact ⟨ci,q1,q2.keepx hx1 (HD.out i k hi' hlt e),q3⟩
   clear HK bm1 hcm1 hx1 hb hz h3;go_wp2_with fail;go_roundw
   case rel=>exact ⟨k+1,by omega,by go_num,by congr 1;have:=HZ.out;omega,HN.out.1,HN.out.2.1,HN.out.2.2⟩
   case measure=>simp [intOf];omega
  ·obtain rfl:k=L.length:=by omega
   rw [List.take_length];have HZ:=(show Hid (Bz B hi w wr) from hz);clear hz hb hmk HK;go_wp2_with fail;go_ret;exact ⟨rfl,HZ.out⟩
end Go.Proofs.YtpkfgjloepbfpaaGreatDoor
namespace Go.Proofs.YtpkfgjloepbfpaaGreatDoor
open Go.RowKit Go.Shelf
theorem Nx.bz {lo hi:Nat} {w w':World} (h:Nx lo hi w w'):Bz lo hi w w':=⟨h.os,h.tape,h.output,h.size,h.block⟩
theorem Bz.moved {lo hi B Hi:Nat} {w w':World} (h:Bz lo hi w w') (hd:hi<=B\/Hi<=lo):∀ b,b<w.heap.size->B<=b->b<Hi->w'.heap[b]?=w.heap[b]?:=fun b hb h1 h2=>h.block b hb (by omega)
theorem Ly.lyr {w:World} {v:Value} {L:List (List Rw)} (h:Ly w v L):LyR w v L:=by
 obtain ⟨vs,h1,h2,h3⟩:=h;exact ⟨vs,h1,h2,h3⟩
def LsM (w:World) (B hi g:Nat) (L:List (List Rw)):Prop:=∃ (c:Array Value) (G:Nat->Nat),Bk w g c 28/\c.size=L.length/\MdS w (g+1) c G L L.length/\B<=g/\g<hi/\∀ i,i<L.length->G i<hi
theorem LsM.ly {w:World} {B hi g:Nat} {L:List (List Rw)} (h:LsM w B hi g L) (hn:L.length<=1048576) (hl:L.flatten.length<=1048576):Ly w (.slice (some ⟨g,0,none⟩) L.length L.length) L:=by
 obtain ⟨c,G,h1,h2,h3,_⟩:=h;exact h3.ly h1 h2 (by omega) fun l h=>by have:=flat_mem_len h;omega
theorem LsM.moved {w w':World} {B hi g:Nat} {L:List (List Rw)} (h:LsM w B hi g L) (H:∀ b,b<w.heap.size->B<=b->b<hi->w'.heap[b]?=w.heap[b]?):LsM w' B hi g L:=by
 obtain ⟨c,G,h1,h2,h3,h4,h5,h6⟩:=h;refine ⟨c,G,by unfold Bk;rw [H g h1.lt h4 h5];exact h1,h2,⟨h3.1,fun i hi'=>?_⟩,h4,h5,h6⟩;obtain ⟨ci,q1,q2,q3,q4,q5⟩:=h3.2 i hi';exact ⟨ci,q1,q2,by unfold Bk;rw [H (G i) q3.lt (by omega) (h6 i hi')];exact q3,q4,q5⟩
theorem LsM.keep {w w':World} {B hi g:Nat} {L:List (List Rw)} (h:LsM w B hi g L) (hb:Below w.heap.size w w'):LsM w' B hi g L:=h.moved fun b hlt _ _=>hb.block b hlt
theorem toRowSS_m (v:Value) (L:List (List Rw)) (w:World) (h:Ly w v L) :
  Calls Tryz.prog 8 #[v] w fun e w'=>∃ g:Nat,e= .returned (.slice (some ⟨g,0,none⟩) L.length L.length)/\LsM w' w.heap.size w'.heap.size g L/\Below w.heap.size w w' :=
 (toRowSS_any v L w h).mono fun _ _ ⟨c,G,h1,h2,h3,h4,h5⟩=>⟨_,h1,⟨c,G,h2,h3,h4,Nat.le_refl _,h2.lt,fun _ hi=>(h4.lt hi).2⟩,h5⟩
theorem markSS_m {w:World} {B hi g:Nat} {L:List (List Rw)} (h:LsM w B hi g L) (hn:L.length<=1048576) (hf:L.flatten.length<=1048576) (a:Int) (h0:0<=a) (h1:a<=4000000) :
  Calls Tryz.prog 14 #[.slice (some ⟨g,0,none⟩) L.length L.length, .int .i64 a] w fun e w'=>e= .returned (.int .i64 (a+5*(L.flatten.length:Int)))/\Bz B hi w w':=by
 obtain ⟨c,G,q1,q2,q3,q4,q5,q6⟩:=h;refine (markRowSS_any g (g+1) hi c G L a w q1 q2 q3 (by omega) q6 hn hf h0 (by omega)).mono fun e w' ⟨he,hz⟩=>⟨he,hz.os,hz.tape,hz.output,hz.size,fun k hk hor=>hz.block k hk (by omega)⟩
end Go.Proofs.YtpkfgjloepbfpaaGreatDoor
