import Derived.Test.YtbdpcngcbnoioaaDoorGa1
import Derived.Deep.AppendLies
import Derived.ProofKit
import Derived.OpenShut
import Derived.ShutString
import Derived.ChangeOld
import Derived.Below
import Derived.Lib.SmallJoins
import Derived.Deep.SlicePairs
set_option maxHeartbeats 4000000
namespace Go.Proofs.YtbdpcngcbnoioaaDoor
open Go.RowKit
def tA (l:LI) (i:Nat):Int:=(l.getD i (0,0)).1
def tB (l:LI) (i:Nat):Int:=(l.getD i (0,0)).2
def Ts (w:World) (v:Value) (l:LI):Prop :=
 ∃ a cap,v= .slice a l.length cap/\l.length<=cap/\cap<=maxLen/\l.length<=2097152/\∀ i:Nat,i<l.length->∃ g off,a=some ⟨g,off,none⟩/\g<w.heap.size /\
  w.cell? ⟨g,off+i*2,none⟩=some (.int .i64 (tA l i))/\w.cell? ⟨g,off+i*2+1,none⟩=some (.int .i64 (tB l i))
theorem Ts.keep {w w1:World} {v:Value} {l:LI} (h:Ts w v l) (hb:Below w.heap.size w w1):Ts w1 v l:=by
 obtain ⟨a,cap,rfl,h1,h2,h3,h4⟩:=h;refine ⟨a,cap,rfl,h1,h2,h3,fun i hi=>?_⟩;obtain ⟨g,off,rfl,hg,c0,c1⟩:=h4 i hi;exact ⟨g,off,rfl,Nat.lt_of_lt_of_le hg hb.size,cB hb c0,cB hb c1⟩
theorem Bk.cell {w:World} {k:Nat} {c:Array Value} {t:TypeId} (h:Bk w k c t) {i:Nat} {v:Value} (hi:c[i]?=some v):w.cell? ⟨k,i,none⟩=some v:=by
 unfold Bk at h;simp [World.cell?,h,hi]
theorem Bk.free {w:World} {k:Nat} {c:Array Value} {t:TypeId} (h:Bk w k c t) (i:Nat):w.frozen? ⟨k,i,none⟩=false:=by
 unfold Bk at h;simp [World.frozen?,h]
def Fill (c:Array Value) (l:LI) (k:Nat):Prop :=
 ∀ i,i<k->c[i*2]?=some (.int .i64 (tA l i))/\c[i*2+1]?=some (.int .i64 (tB l i))
theorem Fill.step {c:Array Value} {l:LI} {k:Nat} (h:Fill c l k) (hs:k*2+1<c.size) :
  Fill ((c.setIfInBounds (k*2) (.int .i64 (tA l k))).setIfInBounds (k*2+1) (.int .i64 (tB l k))) l (k+1):=by
 intro i hi
 by_cases e:i=k
 ·subst e;simp [Array.getElem?_setIfInBounds];omega
 ·obtain ⟨h1,h2⟩:=h i (by omega);have n1:¬ k*2+1=i*2:=by omega
  have n2:¬ k*2=i*2:=by omega
  have n3:¬ k*2+1=i*2+1:=by omega
  have n4:¬ k*2=i*2+1:=by omega
  simp only [Array.getElem?_setIfInBounds,n1,n2,n3,n4,if_false];exact ⟨h1,h2⟩
theorem eqTime_same (a b:Int) (w:World):Calls Tryd.prog 34 #[tv a b,tv a b] w fun e w'=>e= .returned (.bool true)/\Below w.heap.size w w':=by
 have:=eqTime_any a b a b w;rw [eqB_self] at this;exact this
theorem eqTimeS_same (v v':Value) (l:LI) (w:World) (h:Ts w v l) (h':Ts w v' l) :
  Calls Tryd.prog 20 #[v,v'] w fun e w'=>e= .returned (.bool true)/\Below w.heap.size w w':=by
 obtain ⟨a,cap,rfl,hc,hm,hn,hcells⟩:=h;obtain ⟨a',cap',rfl,hc',hm',hn',hcells'⟩:=h';unfold maxLen at hm hm';have HC:=(show Hid _ from hcells);have HC':=(show Hid _ from hcells');clear hcells hcells' hn';go_enter Tryd.func20,Tryd.ntmps20;go_wp2_with fail
 go_loopw [5] (fun i wr=>∃ k:Nat,k<=l.length/\i= .int .i64 k/\Below w.heap.size w wr) (fun i _=>l.length-(intOf i).toNat)
 case atStart=>exact ⟨0,by omega,rfl,Below.refl _ _⟩
 case round =>
  obtain ⟨k,hk,rfl,hb⟩:=hrel
  by_cases hlt:k<l.length
  ·obtain ⟨g,off,rfl,hg,c0,c1⟩:=HC.out k hlt;obtain ⟨g',off',rfl,hg',p0,p1⟩:=HC'.out k hlt;generalize tA l k=X at *;generalize tB l k=Y at *;have d0:∀ p:Bel wr,p.ww.cell? ⟨g,off+k*2,none⟩=some (.int .i64 X):=fun p=>cB p.below (cB hb c0);have d1:∀ p:Bel wr,p.ww.cell? ⟨g,off+k*2+1,none⟩=some (.int .i64 Y):=fun p=>cB p.below (cB hb c1);have e0:∀ p:Bel wr,p.ww.cell? ⟨g',off'+k*2,none⟩=some (.int .i64 X):=fun p=>cB p.below (cB hb p0);have e1:∀ p:Bel wr,p.ww.cell? ⟨g',off'+k*2+1,none⟩=some (.int .i64 Y):=fun p=>cB p.below (cB hb p1);clear c0 c1 p0 p1;have ik:((k:Int)<(l.length:Int)):=by omega
   have hne:=bel_some wr;go_wp2_with fail
   (refine wB (by kernel_rfl) (by kernel_rfl) ?_;(repeat (go_big_quiet_step ((first|(go_at_call 34;exact clz (eqTime_same _ _ _))))));refine wpQuiet_nil ?_)
   intro w1 hw1
   replace hw1:=bO hw1
   have hbw:=bSz hb hw1;go_wp2_with fail;go_roundw
   case rel=>exact ⟨k+1,by omega,by go_num,hbw⟩
   case measure=>simp [intOf];omega
  ·go_wp2_with fail;go_ret;exact ⟨rfl,hb⟩
open Go.ChangeShapes Go.WideShapes Go.ChangeAt Go.Joins
end Go.Proofs.YtbdpcngcbnoioaaDoor
