import Derived.Test.YtbdpcngcbnoioaaGreatDoorMul
import Derived.Shelf.Spec.BitsCarry
import Derived.Laws.Bits64
import Derived.Test.YtbdpcngcbnoioaaGreatDoorGm1
import Derived.Test.YtbdpcngcbnoioaaGreatDoorGj1
import Derived.Test.YtbdpcngcbnoioaaGreatDoorGk2
import Derived.Test.YtbdpcngcbnoioaaGreatDoorGpm
import Derived.Test.YtbdpcngcbnoioaaGreatDoorGf2
import Derived.Test.YtbdpcngcbnoioaaGreatDoorGqc
import Derived.Test.YtbdpcngcbnoioaaGreatDoorDp1
namespace Go.Proofs.YtbdpcngcbnoioaaGreatDoor
open Go.RowKit
section
variable {κ:Type} {ek:κ->Value} {ok:κ->Prop} {k e t:TypeId} {w:World} {b:Nat} {M:List (κ×Int)}
open Go.ChangeMaps (setBlock) in
end
section
variable {κ:Type} {ek:κ->Value} {ok:κ->Prop} {k e t:TypeId} {w:World} {b:Nat} {M:List (κ×Int)}
open Go.ChangeMaps (setBlock) in
end
open Go.ChangeMaps (setBlock)
section
variable {κ:Type} {ek:κ->Value} {ok:κ->Prop} {w:World} {b r:Nat} {M rest:List (κ×Int)}
end
section
variable {κ:Type} {ek:κ->Value} {ok:κ->Prop} {w:World} {b r:Nat} {M left:List (κ×Int)}
variable {ops:Array Oper} {rest:List Oper} {o:Oper} {a:Act} {Q:Exit->Act->World->Prop}
end
end Go.Proofs.YtbdpcngcbnoioaaGreatDoor
namespace Go.Proofs.YtbdpcngcbnoioaaGreatDoor
open Go.RowKit
open Go.ChangeMaps (setBlock)
end Go.Proofs.YtbdpcngcbnoioaaGreatDoor
namespace Go.Proofs.YtbdpcngcbnoioaaGreatDoor
open Go.RowKit
open Go.ChangeMaps (setBlock)
attribute [local go_sem ↓] Go.wp_at_zero Go.wp_at_succ
end Go.Proofs.YtbdpcngcbnoioaaGreatDoor
namespace Go.Proofs.YtbdpcngcbnoioaaGreatDoor
open Go.RowKit Go.Shelf
end Go.Proofs.YtbdpcngcbnoioaaGreatDoor
namespace Go.Proofs.YtbdpcngcbnoioaaGreatDoor
open Go.RowKit
theorem specAt_no {s:SS} {x y:Int} (hn:atS s x y=none) {sp si sf sd:Value} {w:World} (h:Ses w sp si sf sd s) :
  Calls Tryz.prog 15 #[sv s.t.k s.t.n sp si sf sd,tv x y] w fun e w'=>∃ (a:Option Addr) (c:Nat),e= .returned (.tuple #[.slice a 0 c, .bool false])/\Is w' (.slice a 0 c) []/\Below w.heap.size w w':=by
 refine (specSessAt_any x y h).mono ?_;rintro e w1 ⟨a,c,rfl,hi,hb⟩;rw [hn] at hi ⊢;exact ⟨a,c,rfl,hi,hb⟩
theorem specAt_yes {s:SS} {x y:Int} {l:List It} (hn:atS s x y=some l) {sp si sf sd:Value} {w:World} (h:Ses w sp si sf sd s) :
  Calls Tryz.prog 15 #[sv s.t.k s.t.n sp si sf sd,tv x y] w fun e w'=>∃ (a:Option Addr) (c:Nat),e= .returned (.tuple #[.slice a l.length c, .bool true])/\Is w' (.slice a l.length c) l/\Below w.heap.size w w':=by
 refine (specSessAt_any x y h).mono ?_;rintro e w1 ⟨a,c,rfl,hi,hb⟩;rw [hn] at hi ⊢;exact ⟨a,c,rfl,hi,hb⟩
theorem implAt_none (ea:Addr) {s:SS} {x y:Int} (hn:atS s x y=none) {sp si sf sd:Value} {w:World} (hsm:s.t.sm) (h:Ses w sp si sf sd s) (hg:w.cell? ⟨0,0,none⟩=some (erV ea)) :
  Calls Tryz.prog 16 #[sv s.t.k s.t.n sp si sf sd,tv x y] w fun e w'=>∃ (a:Option Addr) (c:Nat),e= .returned (.tuple #[.slice a 0 c, .bool false])/\Is w' (.slice a 0 c) []/\Below w.heap.size w w':=by
 refine (implSessAt_any ea x y hsm h hg).mono ?_;rintro e w1 ⟨a,c,rfl,hi,hb⟩;rw [hn] at hi ⊢;exact ⟨a,c,rfl,hi,hb⟩
theorem implAt_yes (ea:Addr) {s:SS} {x y:Int} {l:List It} (hn:atS s x y=some l) {sp si sf sd:Value} {w:World} (hsm:s.t.sm) (h:Ses w sp si sf sd s) (hg:w.cell? ⟨0,0,none⟩=some (erV ea)) :
  Calls Tryz.prog 16 #[sv s.t.k s.t.n sp si sf sd,tv x y] w fun e w'=>∃ (a:Option Addr) (c:Nat),e= .returned (.tuple #[.slice a l.length c, .bool true])/\Is w' (.slice a l.length c) l/\Below w.heap.size w w':=by
 refine (implSessAt_any ea x y hsm h hg).mono ?_;rintro e w1 ⟨a,c,rfl,hi,hb⟩;rw [hn] at hi ⊢;exact ⟨a,c,rfl,hi,hb⟩
theorem atS_open {s:SS} {x y:Int} {l:List It} (h:atS s x y=some l):(allS s).isSome=true/\okB x y=true/\covB s.f x y=false/\itemsL s.d x y=l:=by
 unfold atS at h
 split at h
 ·rename_i hc;simp only [Bool.and_eq_true,Bool.not_eq_true'] at hc;exact ⟨hc.1.1,hc.1.2,hc.2,Option.some.inj h⟩
 ·cases h
end Go.Proofs.YtbdpcngcbnoioaaGreatDoor
