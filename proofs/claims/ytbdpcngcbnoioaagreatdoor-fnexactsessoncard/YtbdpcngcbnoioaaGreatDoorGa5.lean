import Derived.Test.YtbdpcngcbnoioaaGreatDoorGa1
import Derived.Deep.AppendLies
import Derived.ProofKit
import Derived.OpenShut
import Derived.ShutString
import Derived.ChangeOld
import Derived.Below
import Derived.Lib.SmallJoins
import Derived.Deep.SlicePairs
set_option maxHeartbeats 4000000
namespace Go.Proofs.YtbdpcngcbnoioaaGreatDoor
open Go.RowKit
theorem infoT:(Tryz.prog.info? 32).map (fun i=>(i.zero,i.size,i.bytes))=some (some (.agg #[.int .i64 0, .int .i64 0]),2,16):=by kernel_rfl
theorem news2 (w:World) (x y:Value) (t:TypeId):∀ j u,[x,y][j]?=some u->(w.alloc (.cells #[x,y] t)).cell? ((⟨w.heap.size,0,none⟩:Addr).add j)=some u:=by
 intro j u hj
 match j,hj with
 | 0,hj=>simp at hj;subst hj;simp [Addr.add]
 | 1,hj=>simp at hj;subst hj;simp [Addr.add]
theorem ones2 (a b:Int):∀ u∈[Value.int .i64 a,Value.int .i64 b],u.oneCell'=true:=by
 intro u hu;simp at hu;rcases hu with rfl|rfl<;>rfl
theorem own_base {w:World} {B:Nat} {e:TypeId} {size:Nat} {v:Value} {n:Nat} {xs:List Value} (h:w.ownsRow B e size v n xs):∀ k,v.ownBlock=some k->B<=k:=by
 obtain ⟨_,h2⟩:=h;intro k hk
 rcases h2 with ⟨rfl,_⟩|⟨g,cap,cur,rfl,hg,_⟩
 ·simp [Value.ownBlock] at hk
 ·simp [Value.ownBlock] at hk;omega
theorem own_empty (w:World) (e:TypeId) (size:Nat):(w.alloc (.cells #[] e)).ownsRow w.heap.size e size (.slice (some ⟨w.heap.size,0,none⟩) 0 0) 0 [] :=
 ⟨by simp, .inr ⟨w.heap.size,0,#[],rfl,Nat.le_refl _,heap_alloc_new w _,Nat.le_refl _,by unfold maxLen;omega,by simp,by simp⟩⟩
def tA (l:LI) (i:Nat):Int:=(l.getD i (0,0)).1
def tB (l:LI) (i:Nat):Int:=(l.getD i (0,0)).2
def Ts (w:World) (v:Value) (l:LI):Prop :=
 ∃ a cap,v= .slice a l.length cap/\l.length<=cap/\cap<=maxLen/\l.length<=2097152/\∀ i:Nat,i<l.length->∃ g off,a=some ⟨g,off,none⟩/\g<w.heap.size /\
  w.cell? ⟨g,off+i*2,none⟩=some (.int .i64 (tA l i))/\w.cell? ⟨g,off+i*2+1,none⟩=some (.int .i64 (tB l i))
theorem Ts.keep {w w1:World} {v:Value} {l:LI} (h:Ts w v l) (hb:Below w.heap.size w w1):Ts w1 v l:=by
 obtain ⟨a,cap,rfl,h1,h2,h3,h4⟩:=h;refine ⟨a,cap,rfl,h1,h2,h3,fun i hi=>?_⟩;obtain ⟨g,off,rfl,hg,c0,c1⟩:=h4 i hi;exact ⟨g,off,rfl,Nat.lt_of_lt_of_le hg hb.size,cB hb c0,cB hb c1⟩
def stepOk (l:LI) (i:Nat):Bool:=okB (tA l i) (tB l i)&&(decide (i=0)||(decide (tA l (i-1)<tA l i)&&decide (tB l i<tB l (i-1))))
def fokB (l:LI):Bool:=(List.range l.length).all (stepOk l)
theorem fok_false {l:LI} {k:Nat} (hk:k<l.length) (h:stepOk l k=false):fokB l=false:=by
 unfold fokB;rw [List.all_eq_false];exact ⟨k,by simpa using hk,by simp [h]⟩
theorem fok_true {l:LI} (h:∀ j,j<l.length->stepOk l j=true):fokB l=true:=by
 unfold fokB;rw [List.all_eq_true];intro j hj;exact h j (by simpa using hj)
theorem fok_at {l:LI} (h:fokB l=true) {j:Nat} (hj:j<l.length):stepOk l j=true:=by
 unfold fokB at h;rw [List.all_eq_true] at h;exact h j (by simpa using hj)
theorem stepOk_zero {l:LI} {X Y:Int} (hX:tA l 0=X) (hY:tB l 0=Y):stepOk l 0=okB X Y:=by simp [stepOk,hX,hY]
theorem stepOk_succ {l:LI} {m:Nat} {X Y X' Y':Int} (hX:tA l (m+1)=X) (hY:tB l (m+1)=Y) (hX':tA l m=X') (hY':tB l m=Y') :
  stepOk l (m+1)=(okB X Y&&(decide (X'<X)&&decide (Y<Y'))):=by simp [stepOk,hX,hY,hX',hY']
theorem upto_one {l:LI} (h:stepOk l 0=true) {j:Nat} (hj:j<1):stepOk l j=true:=by
 obtain rfl:j=0:=by omega
 exact h
theorem upto_succ {l:LI} {k:Nat} (h:∀ j,j<k->stepOk l j=true) (hk:stepOk l k=true) {j:Nat} (hj:j<k+1):stepOk l j=true:=by
 by_cases e:j=k
 ·subst e;exact hk
 ·exact h j (by omega)
theorem implFrontOk_any (v:Value) (l:LI) (w:World) (h:Ts w v l) :
  Calls Tryz.prog 80 #[v] w fun e w'=>e= .returned (.bool (fokB l))/\Below w.heap.size w w':=by
 obtain ⟨a,cap,rfl,hc,hm,hn,hcells⟩:=h;unfold maxLen at hm;have HC:=(show Hid _ from hcells);clear hcells;go_enter Tryz.func80,Tryz.ntmps80;go_wp2_with fail
 go_loopw [7] (fun i wr=>∃ k:Nat,k<=l.length/\i= .int .i64 k/\(∀ j,j<k->stepOk l j=true)/\Below w.heap.size w wr) (fun i _=>l.length-(intOf i).toNat)
 case atStart=>exact ⟨0,by omega,rfl,fun j hj=>by omega,Below.refl _ _⟩
 case round =>
  obtain ⟨k,hk,rfl,hall,hb⟩:=hrel
  by_cases hlt:k<l.length
  ·obtain ⟨g,off,rfl,hg,c0,c1⟩:=HC.out k hlt;generalize hX:tA l k=X at *;generalize hY:tB l k=Y at *;have EX:Hid (tA l k=X):=hX;have EY:Hid (tB l k=Y):=hY;clear hX hY;have d0:=cB hb c0;have d1:=cB hb c1;have HA:=(show Hid _ from hall);clear hall c0 c1;go_wp2_with fail;refine (implOk_any _ _ _).mono ?_;rintro e w1 ⟨rfl,hb1⟩;have bt:=(Bk.new (w:=wr) #[.int .i64 X, .int .i64 Y] 32 rfl).keep hb1;have hbw:Below w.heap.size w w1:=by
    repeat' (first|(with_reducible exact Below.refl _ _)|(with_reducible assumption)|(with_reducible refine bSz ?_ (by with_reducible assumption))|(with_reducible refine bAz ?_ _)|(with_reducible refine Below.drew ?_)|(with_reducible refine bDz ?_ _)|(with_reducible refine Below.setCell ?_ ?_ _)|(simp;done)|(simp;omega)|omega)
   cases ho:okB X Y
   ·have hfin:Hid (fokB l=false):=fok_false hlt (by simp [stepOk,EX.out,EY.out,ho]);go_wp2_with fail;go_ret;exact ⟨rB hfin.out.symm,hbw⟩
   ·obtain ⟨t0,t1,_,_⟩:=bt.two
    rcases k with _|m
    ·have hst:stepOk l 0=true:=by rw [stepOk_zero EX.out EY.out];exact ho
     go_wp2_with fail
     go_quiet (fail)
     go_wp2_with fail;exact ⟨⟨1,by omega,rfl,fun j hj=>upto_one hst hj,bDz hbw _⟩,by simp [intOf];omega⟩
    ·have hm1:m<l.length:=by omega
     have im0:(0:Int)<=(m:Int):=by omega
     have im1:(m:Int)<(l.length:Int):=by omega
     have im2:(l.length:Int)<=2097152:=by omega
     have iw:IntKind.i64.wrap (m:Int)=(m:Int):=by rw [IntKind.wrap_i64];omega
     obtain ⟨g',off',he,hg',p0,p1⟩:=HC.out m hm1;simp at he;obtain ⟨rfl,rfl⟩:=he;generalize hX':tA l m=X' at *;generalize hY':tB l m=Y' at *;have hst:=stepOk_succ EX.out EY.out hX' hY';have HST:=(show Hid _ from hst);clear hX' hY' hst;have q0:=cB hbw p0;have q1:=cB hbw p1;clear p0 p1
     by_cases h1:X'<X
     ·by_cases h2:Y<Y'
      ·have hok:Hid (stepOk l (m+1)=true):=by show _=true;rw [HST.out,ho];simp [h1,h2]
       go_wp2_with fail
       go_quiet (fail)
       go_wp2_with fail;go_roundw
       case rel=>exact ⟨m+1+1,by omega,by go_num,fun j hj=>upto_succ HA.out hok.out hj,bDz hbw _⟩
       case measure=>simp [intOf];omega
      ·have hfin:Hid (fokB l=false):=fok_false hlt (by rw [HST.out];simp [h2]);go_wp2_with fail
       go_quiet (fail)
       go_wp2_with fail;go_ret;exact ⟨rB hfin.out.symm,bDz hbw _⟩
     ·have hfin:Hid (fokB l=false):=fok_false hlt (by rw [HST.out];simp [h1]);go_wp2_with fail
      go_quiet (fail)
      go_wp2_with fail;go_ret;exact ⟨rB hfin.out.symm,bDz hbw _⟩
  ·have hfin:Hid (fokB l=true):=fok_true fun j hj=>hall j (by omega);clear hall;go_wp2_with fail;go_ret;exact ⟨rB hfin.out.symm,hb⟩
theorem specOk_eq {a b:Int} {r:Bool} (h:okB a b=r) (w:World):Calls Tryz.prog 65 #[tv a b] w fun e w'=>e= .returned (.bool r)/\Below w.heap.size w w':=by
 rw [<- h];exact specOk_any a b w
theorem specFrontOk_any (v:Value) (l:LI) (w:World) (h:Ts w v l) :
  Calls Tryz.prog 68 #[v] w fun e w'=>e= .returned (.bool (fokB l))/\Below w.heap.size w w':=by
 obtain ⟨a,cap,rfl,hc,hm,hn,hcells⟩:=h;unfold maxLen at hm;have HC:=(show Hid _ from hcells);clear hcells;go_enter Tryz.func68,Tryz.ntmps68;go_wp2_with fail
 go_loopw [3] (fun i wr=>∃ k:Nat,k<=l.length/\i= .int .i64 k/\(∀ j,j<k->stepOk l j=true)/\Below w.heap.size w wr) (fun i _=>l.length-(intOf i).toNat)
 case atStart=>exact ⟨0,by omega,rfl,fun j hj=>by omega,Below.refl _ _⟩
 case round =>
  obtain ⟨k,hk,rfl,hall,hb⟩:=hrel
  by_cases hlt:k<l.length
  ·obtain ⟨g,off,rfl,hg,c0,c1⟩:=HC.out k hlt;generalize hX:tA l k=X at *;generalize hY:tB l k=Y at *;have EX:Hid (tA l k=X):=hX;have EY:Hid (tB l k=Y):=hY;clear hX hY;have HA:=(show Hid _ from hall);clear hall;have hne:=bel_some wr;have ik:((k:Int)<(l.length:Int)):=by omega
   cases ho:okB X Y
   ·have d0:∀ p:Bel wr,p.ww.cell? ⟨g,off+k*2,none⟩=some (.int .i64 X):=fun p=>cB p.below (cB hb c0);have d1:∀ p:Bel wr,p.ww.cell? ⟨g,off+k*2+1,none⟩=some (.int .i64 Y):=fun p=>cB p.below (cB hb c1);have hfin:Hid (fokB l=false):=fok_false hlt (by simp [stepOk,EX.out,EY.out,ho]);clear c0 c1;go_wp2_with fail
    (refine wBz (by kernel_rfl) (by kernel_rfl) ?_;(repeat (go_big_quiet_step ((first|(go_at_call 65;exact clz (specOk_eq (by with_reducible assumption) _))))));refine wpQuiet_nil ?_)
    intro w1 hw1
    replace hw1:=bOz hw1
    go_wp2_with fail;go_ret;refine ⟨rB hfin.out.symm,?_⟩
    repeat' (first|(with_reducible exact Below.refl _ _)|(with_reducible assumption)|(with_reducible refine bSz ?_ (by with_reducible assumption))|(with_reducible refine bAz ?_ _)|(with_reducible refine Below.drew ?_)|(with_reducible refine bDz ?_ _)|(with_reducible refine Below.setCell ?_ ?_ _)|(simp;done)|(simp;omega)|omega)
   ·rcases k with _|m
    ·have hst:stepOk l 0=true:=by rw [stepOk_zero EX.out EY.out];exact ho
     simp only [Nat.zero_mul,Nat.add_zero] at c0 c1;have d0:∀ p:Bel wr,p.ww.cell? ⟨g,off,none⟩=some (.int .i64 X):=fun p=>cB p.below (cB hb c0);have d1:∀ p:Bel wr,p.ww.cell? ⟨g,off+1,none⟩=some (.int .i64 Y):=fun p=>cB p.below (cB hb c1);clear c0 c1;go_wp2_with fail
     (refine wBz (by kernel_rfl) (by kernel_rfl) ?_;(repeat (go_big_quiet_step ((first|(go_at_call 65;exact clz (specOk_eq (by with_reducible assumption) _))))));refine wpQuiet_nil ?_)
     intro w1 hw1
     replace hw1:=bOz hw1
     have hbw:=bSz hb hw1;go_wp2_with fail;exact ⟨⟨1,by omega,rfl,fun j hj=>upto_one hst hj,hbw⟩,by simp [intOf];omega⟩
    ·have hm1:m<l.length:=by omega
     have im0:(0:Int)<=(m:Int):=by omega
     have im1:(m:Int)<(l.length:Int):=by omega
     have im2:(l.length:Int)<=2097152:=by omega
     have iw:IntKind.i64.wrap (m:Int)=(m:Int):=by rw [IntKind.wrap_i64];omega
     obtain ⟨g',off',he,hg',p0,p1⟩:=HC.out m hm1;simp at he;obtain ⟨rfl,rfl⟩:=he;generalize hX':tA l m=X' at *;generalize hY':tB l m=Y' at *;have hst:=stepOk_succ EX.out EY.out hX' hY';have HST:=(show Hid _ from hst);clear hX' hY' hst;have d0:∀ p:Bel wr,p.ww.cell? ⟨g,off+(m+1)*2,none⟩=some (.int .i64 X):=fun p=>cB p.below (cB hb c0);have d1:∀ p:Bel wr,p.ww.cell? ⟨g,off+(m+1)*2+1,none⟩=some (.int .i64 Y):=fun p=>cB p.below (cB hb c1);have e0:∀ p:Bel wr,p.ww.cell? ⟨g,off+m*2,none⟩=some (.int .i64 X'):=fun p=>cB p.below (cB hb p0);have e1:∀ p:Bel wr,p.ww.cell? ⟨g,off+m*2+1,none⟩=some (.int .i64 Y'):=fun p=>cB p.below (cB hb p1);clear c0 c1 p0 p1
     by_cases h1:X'<X
     ·by_cases h2:Y<Y'
      ·have hok:Hid (stepOk l (m+1)=true):=by show _=true;rw [HST.out,ho];simp [h1,h2]
       have n1:decide (X<=X')=false:=by simp;omega
       have n2:decide (Y'<=Y)=false:=by simp;omega
       go_wp2_with fail
       (refine wBz (by kernel_rfl) (by kernel_rfl) ?_;(repeat (go_big_quiet_step ((first|(go_at_call 65;exact clz (specOk_eq (by with_reducible assumption) _))))));refine wpQuiet_nil ?_)
       intro w1 hw1
       replace hw1:=bOz hw1
       have hbw:=bSz hb hw1;go_wp2_with fail;go_roundw
       case rel=>exact ⟨m+1+1,by omega,by go_num,fun j hj=>upto_succ HA.out hok.out hj,hbw⟩
       case measure=>simp [intOf];omega
      ·have hfin:Hid (fokB l=false):=fok_false hlt (by rw [HST.out];simp [h2]);have n1:decide (X<=X')=false:=by simp;omega
       have n2:decide (Y'<=Y)=true:=by simp;omega
       go_wp2_with fail
       (refine wBz (by kernel_rfl) (by kernel_rfl) ?_;(repeat (go_big_quiet_step ((first|(go_at_call 65;exact clz (specOk_eq (by with_reducible assumption) _))))));refine wpQuiet_nil ?_)
       intro w1 hw1
       replace hw1:=bOz hw1
       go_wp2_with fail;go_ret;refine ⟨rB hfin.out.symm,?_⟩
       repeat' (first|(with_reducible exact Below.refl _ _)|(with_reducible assumption)|(with_reducible refine bSz ?_ (by with_reducible assumption))|(with_reducible refine bAz ?_ _)|(with_reducible refine Below.drew ?_)|(with_reducible refine bDz ?_ _)|(with_reducible refine Below.setCell ?_ ?_ _)|(simp;done)|(simp;omega)|omega)
     ·have hfin:Hid (fokB l=false):=fok_false hlt (by rw [HST.out];simp [h1]);go_wp2_with fail
      (refine wBz (by kernel_rfl) (by kernel_rfl) ?_;(repeat (go_big_quiet_step ((first|(go_at_call 65;exact clz (specOk_eq (by with_reducible assumption) _))))));refine wpQuiet_nil ?_)
      intro w1 hw1
      replace hw1:=bOz hw1
      go_wp2_with fail;go_ret;refine ⟨rB hfin.out.symm,?_⟩
      repeat' (first|(with_reducible exact Below.refl _ _)|(with_reducible assumption)|(with_reducible refine bSz ?_ (by with_reducible assumption))|(with_reducible refine bAz ?_ _)|(with_reducible refine Below.drew ?_)|(with_reducible refine bDz ?_ _)|(with_reducible refine Below.setCell ?_ ?_ _)|(simp;done)|(simp;omega)|omega)
  ·have hfin:Hid (fokB l=true):=fok_true fun j hj=>hall j (by omega);clear hall;go_wp2_with fail;go_ret;exact ⟨rB hfin.out.symm,hb⟩
theorem Bk.cell {w:World} {k:Nat} {c:Array Value} {t:TypeId} (h:Bk w k c t) {i:Nat} {v:Value} (hi:c[i]?=some v):w.cell? ⟨k,i,none⟩=some v:=by
 unfold Bk at h;simp [World.cell?,h,hi]
theorem Bk.free {w:World} {k:Nat} {c:Array Value} {t:TypeId} (h:Bk w k c t) (i:Nat):w.frozen? ⟨k,i,none⟩=false:=by
 unfold Bk at h;simp [World.frozen?,h]
def Fill (c:Array Value) (l:LI) (k:Nat):Prop :=
 ∀ i,i<k->c[i*2]?=some (.int .i64 (tA l i))/\c[i*2+1]?=some (.int .i64 (tB l i))
theorem Fill.step {c:Array Value} {l:LI} {k:Nat} (h:Fill c l k) (hs:k*2+1<c.size) :
  Fill ((c.setIfInBounds (k*2) (.int .i64 (tA l k))).setIfInBounds (k*2+1) (.int .i64 (tB l k))) l (k+1):=by
 intro i hi
 by_cases e:i=k
 ·subst e;simp [Array.getElem?_setIfInBounds];omega
 ·obtain ⟨h1,h2⟩:=h i (by omega);have n1:¬ k*2+1=i*2:=by omega
  have n2:¬ k*2=i*2:=by omega
  have n3:¬ k*2+1=i*2+1:=by omega
  have n4:¬ k*2=i*2+1:=by omega
  simp only [Array.getElem?_setIfInBounds,n1,n2,n3,n4,if_false];exact ⟨h1,h2⟩
theorem Ts.of_blk {w:World} {g cap:Nat} {c:Array Value} {t:TypeId} {l:LI} (h:Bk w g c t) (hf:Fill c l l.length) (hc:l.length<=cap) (hm:cap<=maxLen) (hn:l.length<=2097152) :
  Ts w (.slice (some ⟨g,0,none⟩) l.length cap) l:=by
 refine ⟨_,cap,rfl,hc,hm,hn,fun i hi=>⟨g,0,rfl,h.lt,?_,?_⟩⟩
 ·rw [Nat.zero_add];exact h.cell (hf i hi).1
 ·rw [Nat.zero_add];exact h.cell (hf i hi).2
theorem szTimeS_any (a:Option Addr) (n cap:Nat) (left:Int) (w:World) (hn:n<=cap) (hc:cap<=maxLen) (h0:0<=left) (h1:left<=1048576) :
  Calls Tryz.prog 45 #[.slice a n cap, .int .i64 left] w fun e w'=>e= .returned (.int .i64 (if left<n then -1 else left-n))/\w'=w:=by
 unfold maxLen at hc
 by_cases h:left<(n:Int)
 ·go_enter Tryz.func45,Tryz.ntmps45
  go_wp2
  go_ret;exact ⟨rfl,rfl⟩
 ·go_enter Tryz.func45,Tryz.ntmps45
  go_wp2
  go_ret;exact ⟨rfl,rfl⟩
theorem make_times (n:Nat) (hn:n<=2097152):∃ M:Array Value,M.size=n*2/\∀ u:World,(Instr.makeSlice 27 (.int .i64 (n:Int)) (.int .i64 (n:Int))).run Tryz.prog u= .ok (.slice (some ⟨u.heap.size,0,none⟩) n n) (u.alloc (.cells M 32)):=by
 have infoT:(Tryz.prog.info? 32).map (fun i=>(i.zero,i.size,i.bytes))=some (some (.agg #[.int .i64 0, .int .i64 0]),2,16):=by kernel_rfl
 obtain ⟨i0,hi,hz0,hz1,hz2⟩:=info_parts infoT;refine ⟨madeCells (Value.agg #[.int .i64 0, .int .i64 0]).cells (n*i0.size),by rw [size_madeCells,hz1],fun u=>?_⟩;have:=run_make (P:=Tryz.prog) u 27 32 i0 _ Tryz.underlying27 hi hz0 .i64 .i64 (n:Int) (n:Int) (by omega) (by omega) (by rw [hz2];omega) (by omega)
 simpa using this
theorem toTimeS_any (v:Value) (l:LI) (w:World) (h:Ts w v l) :
  Calls Tryz.prog 46 #[v] w fun e w'=>∃ (g:Nat) (c:Array Value),e= .returned (.slice (some ⟨g,0,none⟩) l.length l.length)/\w.heap.size<=g/\Bk w' g c 32/\c.size=l.length*2/\Fill c l l.length/\Below w.heap.size w w':=by
 obtain ⟨a,cap,rfl,hc,hm,hn,hcells⟩:=h;unfold maxLen at hm;obtain ⟨M,hM,hmk⟩:=make_times l.length hn;have HC:=(show Hid _ from hcells);have HM:=(show Hid _ from hM);clear hcells hM;go_enter Tryz.func46,Tryz.ntmps46;go_wp2_with fail
 go_loopw [4] (fun i wr=>∃ (k:Nat) (c:Array Value),k<=l.length/\i= .int .i64 k/\Bk wr w.heap.size c 32/\c.size=l.length*2/\Fill c l k/\Below w.heap.size w wr) (fun i _=>l.length-(intOf i).toNat)
 case atStart=>exact ⟨0,M,by omega,rfl,Bk.new _ _ rfl,HM.out,fun i hi=>by omega,bAz (Below.refl _ _) _⟩
 case round =>
  obtain ⟨k,c,hk,rfl,hbk,hcs,hfill,hb⟩:=hrel;have HF:=(show Hid _ from hfill);have HS:=(show Hid _ from hcs);clear hfill hcs
  by_cases hlt:k<l.length
  ·obtain ⟨g,off,rfl,hg,c0,c1⟩:=HC.out k hlt;have d0:=cB hb c0;have d1:=cB hb c1;clear c0 c1;generalize hX:tA l k=X at *;generalize hY:tB l k=Y at *;have EX:Hid (tA l k=X):=hX;have EY:Hid (tB l k=Y):=hY;clear hX hY;go_wp2_with fail;refine (toTime_any _ _ _).mono ?_;rintro e w1 ⟨rfl,hb1⟩;have bk1:=hbk.keep hb1;have hbw:=bSz hb hb1;have hs:=HS.out;obtain ⟨y0,q0⟩:∃ y,w1.cell? ⟨w.heap.size,k*2,none⟩=some y:=⟨_,bk1.cell (Array.getElem?_eq_getElem (show k*2<c.size by omega))⟩;obtain ⟨y1,q1⟩:∃ y,w1.cell? ⟨w.heap.size,k*2+1,none⟩=some y:=⟨_,bk1.cell (Array.getElem?_eq_getElem (show k*2+1<c.size by omega))⟩;have f0:=bk1.free (k*2);have f1:=bk1.free (k*2+1);clear hs;go_wp2_with fail;go_roundw
   case rel =>
    have bk2:=(bk1.set (k*2) (.int .i64 X)).set (k*2+1) (.int .i64 Y);refine ⟨k+1,_,by omega,by go_num,bk2,?_,?_,?_⟩
    ·simpa using HS.out
    ·have:=Fill.step (k:=k) HF.out (by have:=HS.out;omega);rw [EX.out,EY.out] at this;exact this
    ·exact (hbw.setCell (by simp) _).setCell (by simp) _
   case measure=>simp [intOf];omega
  ·obtain rfl:k=l.length:=by omega
   go_wp2_with fail;go_ret;exact ⟨w.heap.size,c,rfl,Nat.le_refl _,hbk,HS.out,HF.out,hb⟩
theorem eqTime_same (a b:Int) (w:World):Calls Tryz.prog 117 #[tv a b,tv a b] w fun e w'=>e= .returned (.bool true)/\Below w.heap.size w w':=by
 have:=eqTime_any a b a b w;rw [eqB_self] at this;exact this
theorem eqTimeS_same (v v':Value) (l:LI) (w:World) (h:Ts w v l) (h':Ts w v' l) :
  Calls Tryz.prog 48 #[v,v'] w fun e w'=>e= .returned (.bool true)/\Below w.heap.size w w':=by
 obtain ⟨a,cap,rfl,hc,hm,hn,hcells⟩:=h;obtain ⟨a',cap',rfl,hc',hm',hn',hcells'⟩:=h';unfold maxLen at hm hm';have HC:=(show Hid _ from hcells);have HC':=(show Hid _ from hcells');clear hcells hcells' hn';go_enter Tryz.func48,Tryz.ntmps48;go_wp2_with fail
 go_loopw [5] (fun i wr=>∃ k:Nat,k<=l.length/\i= .int .i64 k/\Below w.heap.size w wr) (fun i _=>l.length-(intOf i).toNat)
 case atStart=>exact ⟨0,by omega,rfl,Below.refl _ _⟩
 case round =>
  obtain ⟨k,hk,rfl,hb⟩:=hrel
  by_cases hlt:k<l.length
  ·obtain ⟨g,off,rfl,hg,c0,c1⟩:=HC.out k hlt;obtain ⟨g',off',rfl,hg',p0,p1⟩:=HC'.out k hlt;generalize tA l k=X at *;generalize tB l k=Y at *;have d0:∀ p:Bel wr,p.ww.cell? ⟨g,off+k*2,none⟩=some (.int .i64 X):=fun p=>cB p.below (cB hb c0);have d1:∀ p:Bel wr,p.ww.cell? ⟨g,off+k*2+1,none⟩=some (.int .i64 Y):=fun p=>cB p.below (cB hb c1);have e0:∀ p:Bel wr,p.ww.cell? ⟨g',off'+k*2,none⟩=some (.int .i64 X):=fun p=>cB p.below (cB hb p0);have e1:∀ p:Bel wr,p.ww.cell? ⟨g',off'+k*2+1,none⟩=some (.int .i64 Y):=fun p=>cB p.below (cB hb p1);clear c0 c1 p0 p1;have ik:((k:Int)<(l.length:Int)):=by omega
   have hne:=bel_some wr;go_wp2_with fail
   (refine wBz (by kernel_rfl) (by kernel_rfl) ?_;(repeat (go_big_quiet_step ((first|(go_at_call 117;exact clz (eqTime_same _ _ _))))));refine wpQuiet_nil ?_)
   intro w1 hw1
   replace hw1:=bOz hw1
   have hbw:=bSz hb hw1;go_wp2_with fail;go_roundw
   case rel=>exact ⟨k+1,by omega,by go_num,hbw⟩
   case measure=>simp [intOf];omega
  ·go_wp2_with fail;go_ret;exact ⟨rfl,hb⟩
open Go.ChangeShapes Go.WideShapes Go.ChangeAt Go.Joins
def TsArg (w:World) (a:Option Addr) (len cap:Nat):Prop :=
 len<=cap/\cap<=maxLen/\∃ A B:Nat->Int,∀ i:Nat,i<len->∃ g off,a=some ⟨g,off,none⟩/\g<w.heap.size /\
  w.cell? ⟨g,off+i*2,none⟩=some (.int .i64 (A i))/\w.cell? ⟨g,off+i*2+1,none⟩=some (.int .i64 (B i))
theorem tA_map (A B:Nat->Int) (n i:Nat) (h:i<n):tA ((List.range n).map fun i=>(A i,B i)) i=A i:=by simp [tA,h]
theorem tB_map (A B:Nat->Int) (n i:Nat) (h:i<n):tB ((List.range n).map fun i=>(A i,B i)) i=B i:=by simp [tB,h]
theorem TsArg.ts {w:World} {a:Option Addr} {len cap:Nat} (h:TsArg w a len cap) (hn:len<=2097152):∃ l:LI,l.length=len/\Ts w (.slice a len cap) l:=by
 obtain ⟨h1,h2,A,B,h3⟩:=h;refine ⟨(List.range len).map fun i=>(A i,B i),by simp,a,cap,by simp,by simpa using h1,h2,by simpa using hn,fun i hi=>?_⟩;simp only [List.length_map,List.length_range] at hi;rw [tA_map A B len i hi,tB_map A B len i hi];exact h3 i hi
theorem cellsT:Tryz.prog.cellsOf 87=2:=by kernel_rfl
theorem cellsI:Tryz.prog.cellsOf 3=1:=by kernel_rfl
theorem TsArg.of_trod {H:Type} {enc:TypeId×Value->H} {w:World} {base:Nat} {sp:Nat->Bool} {held:Bool} {a:Option Addr} {len cap:Nat} {d:DataW H} {p:List MemPlace}
  (h:DataW.Trod enc Tryz.prog w base sp held 74 (.slice a len cap) d p):TsArg w a len cap:=by
 obtain ⟨fuel,hf⟩:=h
 rcases Go.Deep.open_slice_pairs Tryz.underlying74 Tryz.underlying87 cellsT rfl rfl cellsI cellsI hf with ⟨hcs,_⟩|⟨x,l,c,m,n,V0,V1,D0,D1,P0,P1,hcs,_,hl,hm,hmm,_,hx⟩
 ·simp [Value.cells] at hcs;obtain ⟨rfl,rfl,rfl⟩:=hcs;exact ⟨Nat.le_refl _,by unfold maxLen;omega,fun _=>0,fun _=>0,fun i hi=>by omega⟩
 ·simp [Value.cells] at hcs;obtain ⟨rfl,rfl,rfl⟩:=hcs;have hlm:len<=m:=by rw [hmm];split<;>omega
  have each:∀ i,i<len->∃ q:Int×Int,w.cell? (x.add (i*2))=some (.int .i64 q.1)/\w.cell? (x.add (i*2+1))=some (.int .i64 q.2):=by
   intro i hi;obtain ⟨h0,h1,t0,t1⟩:=hx i (by omega);obtain ⟨u,e0,_,_⟩:=DataW.trod_int Tryz.underlying3 t0;obtain ⟨v,e1,_,_⟩:=DataW.trod_int Tryz.underlying3 t1;simp at e0 e1;exact ⟨(u,v),by rw [h0,e0],by rw [h1,e1]⟩
  obtain ⟨q,hq⟩:=Go.Deep.choose_lt each;refine ⟨hl,hm,fun i=>(q i).1,fun i=>(q i).2,fun i hi=>?_⟩;obtain ⟨b,off,spot⟩:=x;have hspot:spot=none:=by
   have h0:=World.cell?_spot (hq 0 (by omega)).1
   simpa [Addr.add] using h0
  subst hspot;obtain ⟨c0,c1⟩:=hq i hi;rw [add_plain] at c0 c1;rw [<- Nat.add_assoc] at c1;exact ⟨b,off,rfl,lC c0,c0,c1⟩
end Go.Proofs.YtbdpcngcbnoioaaGreatDoor
