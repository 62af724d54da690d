import Derived.Test.YtbdpcngcbnoioaaGreatDoorGa8
set_option maxHeartbeats 4000000
namespace Go.Proofs.YtbdpcngcbnoioaaGreatDoor
open Go.RowKit
def marksL (a:Int) (n:Nat):LI:=(List.range n).map fun i:Nat=>(a+2*(i:Int),a+2*(i:Int)+1)
theorem marksL_len (a:Int) (n:Nat):(marksL a n).length=n:=by simp [marksL]
theorem marksL_at (a:Int) {n i:Nat} (h:i<n):tA (marksL a n) i=a+2*(i:Int)/\tB (marksL a n) i=a+2*(i:Int)+1:=by
 simp [marksL,tA,tB,h]
theorem markB_any (g n cap:Nat) (c:Array Value) (a:Int) (w:World) (h:Bk w g c 32) (hs:c.size=cap*2) (hc:n<=cap) (hn:n<=2097152) (h0:0<=a) (h1:a<=1000000000) :
  Calls Tryz.prog 50 #[.slice (some ⟨g,0,none⟩) n cap, .int .i64 a] w fun e w' =>
   ∃ c':Array Value,e= .returned (.int .i64 (a+2*(n:Int)))/\Bk w' g c' 32/\c'.size=cap*2/\Fill c' (marksL a n) n/\Bx g w w':=by
 go_enter Tryz.func50,Tryz.ntmps50;go_wp2_with fail
 go_loopw [1,5] (fun q i wr=>∃ (k:Nat) (c':Array Value),k<=n/\i= .int .i64 k/\q= .int .i64 (a+2*(k:Int))/\Bk wr g c' 32/\c'.size=cap*2/\Fill c' (marksL a n) k/\Bx g w wr) (fun _ i _=>n-(intOf i).toNat)
 case atStart=>exact ⟨0,c,by omega,rfl,by simp,h,hs,fun i hi=>by omega,Bx.refl _ _⟩
 case round =>
  clear h hs;obtain ⟨k,c',hk,rfl,rfl,hbk,hcs,hfill,hb⟩:=hrel;have HF:=(show Hid _ from hfill);have HS:=(show Hid _ from hcs)
  by_cases hlt:k<n
  ·obtain ⟨y0,q0⟩:∃ y,wr.cell? ⟨g,k*2,none⟩=some y:=⟨_,hbk.cell (Array.getElem?_eq_getElem (show k*2<c'.size by omega))⟩;obtain ⟨y1,q1⟩:∃ y,wr.cell? ⟨g,k*2+1,none⟩=some y:=⟨_,hbk.cell (Array.getElem?_eq_getElem (show k*2+1<c'.size by omega))⟩;have f0:=hbk.free (k*2);have f1:=hbk.free (k*2+1);have EM:=(show Hid _ from marksL_at a hlt);clear hfill hcs;have bk1:=hbk.set (k*2) (.int .i64 (a+2*(k:Int)));have bk2:=bk1.set (k*2+1) (.int .i64 (a+2*(k:Int)+1));have f2:=bk1.free (k*2+1);obtain ⟨y2,q2⟩:∃ y,(wr.setCell ⟨g,k*2,none⟩ (.int .i64 (a+2*(k:Int)))).cell? ⟨g,k*2+1,none⟩=some y:=⟨_,bk1.cell (Array.getElem?_eq_getElem (by have:=HS.out;simp;omega))⟩;go_wp2_with fail;go_roundw
   case rel =>
    refine ⟨k+1,_,by omega,by go_num,by go_num,bk2,?_,?_,?_⟩
    ·simpa using HS.out
    ·have:=Fill.step (k:=k) HF.out (by have:=HS.out;omega);rw [EM.out.1,EM.out.2] at this;exact this
    ·exact (hb.setG rfl _).setG rfl _
   case measure=>simp [intOf];omega
  ·obtain rfl:k=n:=by omega
   go_wp2_with fail;go_ret;exact ⟨c',rfl,hbk,HS.out,HF.out,hb⟩
theorem markN_any (a:Int) (w:World) :
  Calls Tryz.prog 50 #[.slice none 0 0, .int .i64 a] w fun e w'=>e= .returned (.int .i64 a)/\w'=w:=by
 go_enter Tryz.func50,Tryz.ntmps50;go_wp2_with fail;refine wp_loop_rounds 1 ?_;rw [rounds_succ];go_wp2_with fail;go_ret;exact ⟨rfl,rfl⟩
theorem held_any (v:Value) (n:Nat) (a:Int) (w:World) (h:Ts w v (marksL a n)) (h0:0<=a) (h1:a<=1000000000) :
  Calls Tryz.prog 122 #[v, .int .i64 a] w fun e w'=>e= .returned (.int .i64 (a+2*(n:Int)))/\Below w.heap.size w w':=by
 obtain ⟨ad,cap,rfl,hc,hm,hn,hcells⟩:=h;rw [marksL_len] at hc hn hcells ⊢;unfold maxLen at hm;have HC:=(show Hid _ from hcells);clear hcells;go_enter Tryz.func122,Tryz.ntmps122;go_wp2_with fail
 go_loopw [1,5] (fun q i wr=>∃ k:Nat,k<=n/\i= .int .i64 k/\q= .int .i64 (a+2*(k:Int))/\Below w.heap.size w wr) (fun _ i _=>n-(intOf i).toNat)
 case atStart=>exact ⟨0,by omega,rfl,by simp,Below.refl _ _⟩
 case round =>
  obtain ⟨k,hk,rfl,rfl,hb⟩:=hrel
  by_cases hlt:k<n
  ·obtain ⟨g,off,rfl,hg,c0,c1⟩:=HC.out k hlt;rw [(marksL_at a hlt).1] at c0;rw [(marksL_at a hlt).2] at c1;have d0:=cB hb c0;have d1:=cB hb c1;clear c0 c1;go_wp2_with fail;go_roundw
   case rel=>exact ⟨k+1,by omega,by go_num,by go_num,hb⟩
   case measure=>simp [intOf];omega
  ·obtain rfl:k=n:=by omega
   go_wp2_with fail;go_ret;exact ⟨rfl,hb⟩
end Go.Proofs.YtbdpcngcbnoioaaGreatDoor
