import Derived.Test.YtbdpcngcbnoioaaGreatDoorGa1
import Derived.Deep.AppendLies
import Derived.ProofKit
import Derived.OpenShut
import Derived.ShutString
import Derived.ChangeOld
import Derived.Below
import Derived.Lib.SmallJoins
import Derived.Deep.SlicePairs
set_option maxHeartbeats 4000000
namespace Go.Proofs.YtbdpcngcbnoioaaGreatDoor
open Go.RowKit
theorem infoT:(Tryz.prog.info? 32).map (fun i=>(i.zero,i.size,i.bytes))=some (some (.agg #[.int .i64 0, .int .i64 0]),2,16):=by kernel_rfl
theorem news2 (w:World) (x y:Value) (t:TypeId):∀ j u,[x,y][j]?=some u->(w.alloc (.cells #[x,y] t)).cell? ((⟨w.heap.size,0,none⟩:Addr).add j)=some u:=by
 intro j u hj
 match j,hj with
 | 0,hj=>simp at hj;subst hj;simp [Addr.add]
 | 1,hj=>simp at hj;subst hj;simp [Addr.add]
theorem ones2 (a b:Int):∀ u∈[Value.int .i64 a,Value.int .i64 b],u.oneCell'=true:=by
 intro u hu;simp at hu;rcases hu with rfl|rfl<;>rfl
theorem own_base {w:World} {B:Nat} {e:TypeId} {size:Nat} {v:Value} {n:Nat} {xs:List Value} (h:w.ownsRow B e size v n xs):∀ k,v.ownBlock=some k->B<=k:=by
 obtain ⟨_,h2⟩:=h;intro k hk
 rcases h2 with ⟨rfl,_⟩|⟨g,cap,cur,rfl,hg,_⟩
 ·simp [Value.ownBlock] at hk
 ·simp [Value.ownBlock] at hk;omega
theorem own_empty (w:World) (e:TypeId) (size:Nat):(w.alloc (.cells #[] e)).ownsRow w.heap.size e size (.slice (some ⟨w.heap.size,0,none⟩) 0 0) 0 [] :=
 ⟨by simp, .inr ⟨w.heap.size,0,#[],rfl,Nat.le_refl _,heap_alloc_new w _,Nat.le_refl _,by unfold maxLen;omega,by simp,by simp⟩⟩
def tA (l:LI) (i:Nat):Int:=(l.getD i (0,0)).1
def tB (l:LI) (i:Nat):Int:=(l.getD i (0,0)).2
def Ts (w:World) (v:Value) (l:LI):Prop :=
 ∃ a cap,v= .slice a l.length cap/\l.length<=cap/\cap<=maxLen/\l.length<=2097152/\∀ i:Nat,i<l.length->∃ g off,a=some ⟨g,off,none⟩/\g<w.heap.size /\
  w.cell? ⟨g,off+i*2,none⟩=some (.int .i64 (tA l i))/\w.cell? ⟨g,off+i*2+1,none⟩=some (.int .i64 (tB l i))
theorem Ts.keep {w w1:World} {v:Value} {l:LI} (h:Ts w v l) (hb:Below w.heap.size w w1):Ts w1 v l:=by
 obtain ⟨a,cap,rfl,h1,h2,h3,h4⟩:=h;refine ⟨a,cap,rfl,h1,h2,h3,fun i hi=>?_⟩;obtain ⟨g,off,rfl,hg,c0,c1⟩:=h4 i hi;exact ⟨g,off,rfl,Nat.lt_of_lt_of_le hg hb.size,cB hb c0,cB hb c1⟩
def stepOk (l:LI) (i:Nat):Bool:=okB (tA l i) (tB l i)&&(decide (i=0)||(decide (tA l (i-1)<tA l i)&&decide (tB l i<tB l (i-1))))
def fokB (l:LI):Bool:=(List.range l.length).all (stepOk l)
theorem fok_false {l:LI} {k:Nat} (hk:k<l.length) (h:stepOk l k=false):fokB l=false:=by
 unfold fokB;rw [List.all_eq_false];exact ⟨k,by simpa using hk,by simp [h]⟩
theorem fok_true {l:LI} (h:∀ j,j<l.length->stepOk l j=true):fokB l=true:=by
 unfold fokB;rw [List.all_eq_true];intro j hj;exact h j (by simpa using hj)
theorem fok_at {l:LI} (h:fokB l=true) {j:Nat} (hj:j<l.length):stepOk l j=true:=by
 unfold fokB at h;rw [List.all_eq_true] at h;exact h j (by simpa using hj)
theorem stepOk_zero {l:LI} {X Y:Int} (hX:tA l 0=X) (hY:tB l 0=Y):stepOk l 0=okB X Y:=by simp [stepOk,hX,hY]
theorem stepOk_succ {l:LI} {m:Nat} {X Y X' Y':Int} (hX:tA l (m+1)=X) (hY:tB l (m+1)=Y) (hX':tA l m=X') (hY':tB l m=Y') :
  stepOk l (m+1)=(okB X Y&&(decide (X'<X)&&decide (Y<Y'))):=by simp [stepOk,hX,hY,hX',hY']
theorem upto_one {l:LI} (h:stepOk l 0=true) {j:Nat} (hj:j<1):stepOk l j=true:=by
 obtain rfl:j=0:=by omega
 exact h
theorem upto_succ {l:LI} {k:Nat} (h:∀ j,j<k->stepOk l j=true) (hk:stepOk l k=true) {j:Nat} (hj:j<k+1):stepOk l j=true:=by
 by_cases e:j=k
 ·subst e;exact hk
 ·exact h j (by omega)
theorem implFrontOk_any (v:Value) (l:LI) (w:World) (h:Ts w v l) :
  Calls Tryz.prog 80 #[v] w fun e w'=>e= .returned (.bool (fokB l))/\Below w.heap.size w w':=by
 obtain ⟨a,cap,rfl,hc,hm,hn,hcells⟩:=h;unfold maxLen at hm;have HC:=(show Hid _ from hcells);clear hcells;go_enter Tryz.func80,Tryz.ntmps80;go_wp2_with fail
 go_loopw [7] (fun i wr=>∃ k:Nat,k<=l.length/\i= .int .i64 k/\(∀ j,j<k->stepOk l j=true)/\Below w.heap.size w wr) (fun i _=>l.length-(intOf i).toNat)
 case atStart=>exact ⟨0,by omega,rfl,fun j hj=>by omega,Below.refl _ _⟩
 case round =>
  obtain ⟨k,hk,rfl,hall,hb⟩:=hrel
  by_cases hlt:k<l.length
  ·obtain ⟨g,off,rfl,hg,c0,c1⟩:=HC.out k hlt;generalize hX:tA l k=X at *;generalize hY:tB l k=Y at *;have EX:Hid (tA l k=X):=hX;have EY:Hid (tB l k=Y):=hY;clear hX hY;have d0:=cB hb c0;have d1:=cB hb c1;have HA:=(show Hid _ from hall);clear hall c0 c1;go_wp2_with fail;refine (implOk_any _ _ _).mono ?_;rintro e w1 ⟨rfl,hb1⟩;have bt:=(Bk.new (w:=wr) #[.int .i64 X, .int .i64 Y] 32 rfl).keep hb1;have hbw:Below w.heap.size w w1:=by
    repeat' (first|(with_reducible exact Below.refl _ _)|(with_reducible assumption)|(with_reducible refine bSz ?_ (by with_reducible assumption))|(with_reducible refine bAz ?_ _)|(with_reducible refine Below.drew ?_)|(with_reducible refine bDz ?_ _)|(with_reducible refine Below.setCell ?_ ?_ _)|(simp;done)|(simp;omega)|omega)
   cases ho:okB X Y
   ·have hfin:Hid (fokB l=false):=fok_false hlt (by simp [stepOk,EX.out,EY.out,ho]);go_wp2_with fail;go_ret;exact ⟨rB hfin.out.symm,hbw⟩
   ·obtain ⟨t0,t1,_,_⟩:=bt.two
    rcases k with _|m
    ·have hst:stepOk l 0=true:=by rw [stepOk_zero EX.out EY.out];exact ho
     go_wp2_with fail
     go_quiet (fail)
     go_wp2_with fail;exact ⟨⟨1,by omega,rfl,fun j hj=>upto_one hst hj,bDz hbw _⟩,by simp [intOf];omega⟩
    ·have hm1:m<l.length:=by omega
     have im0:(0:Int)<=(m:Int):=by omega
     have im1:(m:Int)<(l.length:Int):=by omega
     have im2:(l.length:Int)<=2097152:=by omega
     have iw:IntKind.i64.wrap (m:Int)=(m:Int):=by rw [IntKind.wrap_i64];omega
     obtain ⟨g',off',he,hg',p0,p1⟩:=HC.out m hm1;simp at he;obtain ⟨rfl,rfl⟩:=he;generalize hX':tA l m=X' at *;generalize hY':tB l m=Y' at *;have hst:=stepOk_succ EX.out EY.out hX' hY';have HST:=(show Hid _ from hst);clear hX' hY' hst;have q0:=cB hbw p0;have q1:=cB hbw p1;clear p0 p1
     by_cases h1:X'<X
     ·by_cases h2:Y<Y'
      ·have hok:Hid (stepOk l (m+1)=true):=by show _=true;rw [HST.out,ho];simp [h1,h2]
       go_wp2_with fail
       go_quiet (fail)
       go_wp2_with fail;go_roundw
       case rel=>exact ⟨m+1+1,by omega,by go_num,fun j hj=>upto_succ HA.out hok.out hj,bDz hbw _⟩
       case measure=>simp [intOf];omega
      ·have hfin:Hid (fokB l=false):=fok_false hlt (by rw [HST.out];simp [h2]);go_wp2_with fail
       go_quiet (fail)
       go_wp2_with fail;go_ret;exact ⟨rB hfin.out.symm,bDz hbw _⟩
     ·have hfin:Hid (fokB l=false):=fok_false hlt (by rw [HST.out];simp [h1]);go_wp2_with fail
      go_quiet (fail)
      go_wp2_with fail;go_ret;exact ⟨rB hfin.out.symm,bDz hbw _⟩
  ·have hfin:Hid (fokB l=true):=fok_true fun j hj=>hall j (by omega);clear hall;go_wp2_with fail;go_ret;exact ⟨rB hfin.out.symm,hb⟩
theorem specOk_eq {a b:Int} {r:Bool} (h:okB a b=r) (w:World):Calls Tryz.prog 65 #[tv a b] w fun e w'=>e= .returned (.bool r)/\Below w.heap.size w w':=by
 rw [<- h];exact specOk_any a b w
theorem specFrontOk_any (v:Value) (l:LI) (w:World) (h:Ts w v l) :
  Calls Tryz.prog 68 #[v] w fun e w'=>e= .returned (.bool (fokB l))/\Below w.heap.size w w':=by
 obtain ⟨a,cap,rfl,hc,hm,hn,hcells⟩:=h;unfold maxLen at hm;have HC:=(show Hid _ from hcells);clear hcells;go_enter Tryz.func68,Tryz.ntmps68;go_wp2_with fail
 go_loopw [3] (fun i wr=>∃ k:Nat,k<=l.length/\i= .int .i64 k/\(∀ j,j<k->stepOk l j=true)/\Below w.heap.size w wr) (fun i _=>l.length-(intOf i).toNat)
 case atStart=>exact ⟨0,by omega,rfl,fun j hj=>by omega,Below.refl _ _⟩
 case round =>
  obtain ⟨k,hk,rfl,hall,hb⟩:=hrel
  by_cases hlt:k<l.length
  ·obtain ⟨g,off,rfl,hg,c0,c1⟩:=HC.out k hlt;generalize hX:tA l k=X at *;generalize hY:tB l k=Y at *;have EX:Hid (tA l k=X):=hX;have EY:Hid (tB l k=Y):=hY;clear hX hY;have HA:=(show Hid _ from hall);clear hall;have hne:=bel_some wr;have ik:((k:Int)<(l.length:Int)):=by omega
   cases ho:okB X Y
   ·have d0:∀ p:Bel wr,p.ww.cell? ⟨g,off+k*2,none⟩=some (.int .i64 X):=fun p=>cB p.below (cB hb c0);have d1:∀ p:Bel wr,p.ww.cell? ⟨g,off+k*2+1,none⟩=some (.int .i64 Y):=fun p=>cB p.below (cB hb c1);have hfin:Hid (fokB l=false):=fok_false hlt (by simp [stepOk,EX.out,EY.out,ho]);clear c0 c1;go_wp2_with fail
    (refine wBz (by kernel_rfl) (by kernel_rfl) ?_;(repeat (go_big_quiet_step ((first|(go_at_call 65;exact clz (specOk_eq (by with_reducible assumption) _))))));refine wpQuiet_nil ?_)
    intro w1 hw1
    replace hw1:=bOz hw1
    go_wp2_with fail;go_ret;refine ⟨rB hfin.out.symm,?_⟩
    repeat' (first|(with_reducible exact Below.refl _ _)|(with_reducible assumption)|(with_reducible refine bSz ?_ (by with_reducible assumption))|(with_reducible refine bAz ?_ _)|(with_reducible refine Below.drew ?_)|(with_reducible refine bDz ?_ _)|(with_reducible refine Below.setCell ?_ ?_ _)|(simp;done)|(simp;omega)|omega)
   ·rcases k with _|m
    ·have hst:stepOk l 0=true:=by rw [stepOk_zero EX.out EY.out];exact ho
     simp only [Nat.zero_mul,Nat.add_zero] at c0 c1;have d0:∀ p:Bel wr,p.ww.cell? ⟨g,off,none⟩=some (.int .i64 X):=fun p=>cB p.below (cB hb c0);have d1:∀ p:Bel wr,p.ww.cell? ⟨g,off+1,none⟩=some (.int .i64 Y):=fun p=>cB p.below (cB hb c1);clear c0 c1;go_wp2_with fail
     (refine wBz (by kernel_rfl) (by kernel_rfl) ?_;(repeat (go_big_quiet_step ((first|(go_at_call 65;exact clz (specOk_eq (by with_reducible assumption) _))))));refine wpQuiet_nil ?_)
     intro w1 hw1
     replace hw1:=bOz hw1
     have hbw:=bSz hb hw1;go_wp2_with fail;exact ⟨⟨1,by omega,rfl,fun j hj=>upto_one hst hj,hbw⟩,by simp [intOf];omega⟩
    ·have hm1:m<l.length:=by omega
     have im0:(0:Int)<=(m:Int):=by omega
     have im1:(m:Int)<(l.length:Int):=by omega
     have im2:(l.length:Int)<=2097152:=by omega
     have iw:IntKind.i64.wrap (m:Int)=(m:Int):=by rw [IntKind.wrap_i64];omega
     obtain ⟨g',off',he,hg',p0,p1⟩:=HC.out m hm1;simp at he;obtain ⟨rfl,rfl⟩:=he;generalize hX':tA l m=X' at *;generalize hY':tB l m=Y' at *;have hst:=stepOk_succ EX.out EY.out hX' hY';have HST:=(show Hid _ from hst);clear hX' hY' hst;have d0:∀ p:Bel wr,p.ww.cell? ⟨g,off+(m+1)*2,none⟩=some (.int .i64 X):=fun p=>cB p.below (cB hb c0);have d1:∀ p:Bel wr,p.ww.cell? ⟨g,off+(m+1)*2+1,none⟩=some (.int .i64 Y):=fun p=>cB p.below (cB hb c1);have e0:∀ p:Bel wr,p.ww.cell? ⟨g,off+m*2,none⟩=some (.int .i64 X'):=fun p=>cB p.below (cB hb p0);have e1:∀ p:Bel wr,p.ww.cell? ⟨g,off+m*2+1,none⟩=some (.int .i64 Y'):=fun p=>cB p.below (cB hb p1);clear c0 c1 p0 p1
     by_cases h1:X'<X
     ·by_cases h2:Y<Y'
      ·have hok:Hid (stepOk l (m+1)=true):=by show _=true;rw [HST.out,ho];simp [h1,h2]
       have n1:decide (X<=X')=false:=by simp;omega
       have n2:decide (Y'<=Y)=false:=by simp;omega
       go_wp2_with fail
       (refine wBz (by kernel_rfl) (by kernel_rfl) ?_;(repeat (go_big_quiet_step ((first|(go_at_call 65;exact clz (specOk_eq (by with_reducible assumption) _))))));refine wpQuiet_nil ?_)
       intro w1 hw1
       replace hw1:=bOz hw1
       have hbw:=bSz hb hw1;go_wp2_with fail;go_roundw
       case rel=>exact ⟨m+1+1,by omega,by go_num,fun j hj=>upto_succ HA.out hok.out hj,hbw⟩
       case measure=>simp [intOf];omega
      ·have hfin:Hid (fokB l=false):=fok_false hlt (by rw [HST.out];simp [h2]);have n1:decide (X<=X')=false:=by simp;omega
       have n2:decide (Y'<=Y)=true:=by simp;omega
       go_wp2_with fail
       (refine wBz (by kernel_rfl) (by kernel_rfl) ?_;(repeat (go_big_quiet_step ((first|(go_at_call 65;exact clz (specOk_eq (by with_reducible assumption) _))))));refine wpQuiet_nil ?_)
       intro w1 hw1
       replace hw1:=bOz hw1
       go_wp2_with fail;go_ret;refine ⟨rB hfin.out.symm,?_⟩
       repeat' (first|(with_reducible exact Below.refl _ _)|(with_reducible assumption)|(with_reducible refine bSz ?_ (by with_reducible assumption))|(with_reducible refine bAz ?_ _)|(with_reducible refine Below.drew ?_)|(with_reducible refine bDz ?_ _)|(with_reducible refine Below.setCell ?_ ?_ _)|(simp;done)|(simp;omega)|omega)
     ·have hfin:Hid (fokB l=false):=fok_false hlt (by rw [HST.out];simp [h1]);go_wp2_with fail
      (refine wBz (by kernel_rfl) (by kernel_rfl) ?_;(repeat (go_big_quiet_step ((first|(go_at_call 65;exact clz (specOk_eq (by with_reducible assumption) _))))));refine wpQuiet_nil ?_)
      intro w1 hw1
      replace hw1:=bOz hw1
      go_wp2_with fail;go_ret;refine ⟨rB hfin.out.symm,?_⟩
      repeat' (first|(with_reducible exact Below.refl _ _)|(with_reducible assumption)|(with_reducible refine bSz ?_ (by with_reducible assumption))|(with_reducible refine bAz ?_ _)|(with_reducible refine Below.drew ?_)|(with_reducible refine bDz ?_ _)|(with_reducible refine Below.setCell ?_ ?_ _)|(simp;done)|(simp;omega)|omega)
  ·have hfin:Hid (fokB l=true):=fok_true fun j hj=>hall j (by omega);clear hall;go_wp2_with fail;go_ret;exact ⟨rB hfin.out.symm,hb⟩
theorem Bk.cell {w:World} {k:Nat} {c:Array Value} {t:TypeId} (h:Bk w k c t) {i:Nat} {v:Value} (hi:c[i]?=some v):w.cell? ⟨k,i,none⟩=some v:=by
 unfold Bk at h;simp [World.cell?,h,hi]
theorem Bk.free {w:World} {k:Nat} {c:Array Value} {t:TypeId} (h:Bk w k c t) (i:Nat):w.frozen? ⟨k,i,none⟩=false:=by
 unfold Bk at h;simp [World.frozen?,h]
def Fill (c:Array Value) (l:LI) (k:Nat):Prop :=
 ∀ i,i<k->c[i*2]?=some (.int .i64 (tA l i))/\c[i*2+1]?=some (.int .i64 (tB l i))
open Go.ChangeShapes Go.WideShapes Go.ChangeAt Go.Joins
end Go.Proofs.YtbdpcngcbnoioaaGreatDoor
