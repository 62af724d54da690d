import Derived.Test.YtpkfgjloepbfpaaGreatDoorGa1
import Derived.Deep.AppendLies
import Derived.ProofKit
import Derived.OpenShut
import Derived.ShutString
import Derived.ChangeOld
import Derived.Below
import Derived.Lib.SmallJoins
import Derived.Deep.SlicePairs
namespace Go.Proofs.YtpkfgjloepbfpaaGreatDoor
open Go.RowKit
theorem infoT:(Tryz.prog.info? 53).map (fun i=>(i.zero,i.size,i.bytes))=some (some (.agg #[.int .i64 0, .int .i64 0]),2,16):=by kernel_rfl
theorem news2 (w:World) (x y:Value) (t:TypeId):∀ j u,[x,y][j]?=some u->(w.alloc (.cells #[x,y] t)).cell? ((⟨w.heap.size,0,none⟩:Addr).add j)=some u:=by
 intro j u hj
 match j,hj with
 | 0,hj=>simp at hj;subst hj;simp [Addr.add]
 | 1,hj=>simp at hj;subst hj;simp [Addr.add]
theorem ones2 (a b:Int):∀ u∈[Value.int .i64 a,Value.int .i64 b],u.oneCell'=true:=by
 intro u hu;simp at hu;rcases hu with rfl|rfl<;>rfl
theorem own_base {w:World} {B:Nat} {e:TypeId} {size:Nat} {v:Value} {n:Nat} {xs:List Value} (h:w.ownsRow B e size v n xs):∀ k,v.ownBlock=some k->B<=k:=by
 obtain ⟨_,h2⟩:=h;intro k hk
 rcases h2 with ⟨rfl,_⟩|⟨g,cap,cur,rfl,hg,_⟩
 ·simp [Value.ownBlock] at hk
 ·simp [Value.ownBlock] at hk;omega
theorem own_empty (w:World) (e:TypeId) (size:Nat):(w.alloc (.cells #[] e)).ownsRow w.heap.size e size (.slice (some ⟨w.heap.size,0,none⟩) 0 0) 0 [] :=
 ⟨by simp, .inr ⟨w.heap.size,0,#[],rfl,Nat.le_refl _,heap_alloc_new w _,Nat.le_refl _,by unfold maxLen;omega,by simp,by simp⟩⟩
def tA (l:LI) (i:Nat):Int:=(l.getD i (0,0)).1
def tB (l:LI) (i:Nat):Int:=(l.getD i (0,0)).2
def Ts (w:World) (v:Value) (l:LI):Prop :=
 ∃ a cap,v= .slice a l.length cap/\l.length<=cap/\cap<=maxLen/\l.length<=2097152/\∀ i:Nat,i<l.length->∃ g off,a=some ⟨g,off,none⟩/\g<w.heap.size /\
  w.cell? ⟨g,off+i*2,none⟩=some (.int .i64 (tA l i))/\w.cell? ⟨g,off+i*2+1,none⟩=some (.int .i64 (tB l i))
theorem Ts.keep {w w1:World} {v:Value} {l:LI} (h:Ts w v l) (hb:Below w.heap.size w w1):Ts w1 v l:=by
 obtain ⟨a,cap,rfl,h1,h2,h3,h4⟩:=h;refine ⟨a,cap,rfl,h1,h2,h3,fun i hi=>?_⟩;obtain ⟨g,off,rfl,hg,c0,c1⟩:=h4 i hi;exact ⟨g,off,rfl,Nat.lt_of_lt_of_le hg hb.size,cB hb c0,cB hb c1⟩
theorem specOk_eq {a b:Int} {r:Bool} (h:okB a b=r) (w:World):Calls Tryz.prog 91 #[tv a b] w fun e w'=>e= .returned (.bool r)/\Below w.heap.size w w':=by
 rw [<- h];exact specOk_any a b w
theorem Bk.cell {w:World} {k:Nat} {c:Array Value} {t:TypeId} (h:Bk w k c t) {i:Nat} {v:Value} (hi:c[i]?=some v):w.cell? ⟨k,i,none⟩=some v:=by
 unfold Bk at h;simp [World.cell?,h,hi]
theorem Bk.free {w:World} {k:Nat} {c:Array Value} {t:TypeId} (h:Bk w k c t) (i:Nat):w.frozen? ⟨k,i,none⟩=false:=by
 unfold Bk at h;simp [World.frozen?,h]
def Fill (c:Array Value) (l:LI) (k:Nat):Prop :=
 ∀ i,i<k->c[i*2]?=some (.int .i64 (tA l i))/\c[i*2+1]?=some (.int .i64 (tB l i))
open Go.ChangeShapes Go.WideShapes Go.ChangeAt Go.Joins
theorem cellsT:Tryz.prog.cellsOf 66=2:=by kernel_rfl
theorem cellsI:Tryz.prog.cellsOf 3=1:=by kernel_rfl
end Go.Proofs.YtpkfgjloepbfpaaGreatDoor
