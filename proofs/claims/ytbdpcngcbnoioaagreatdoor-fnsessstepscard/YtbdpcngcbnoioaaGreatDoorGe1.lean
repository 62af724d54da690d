import Derived.Test.YtbdpcngcbnoioaaGreatDoorGl1
import Derived.Test.YtbdpcngcbnoioaaGreatDoorGt7
namespace Go.Proofs.YtbdpcngcbnoioaaGreatDoor
open Go.RowKit
open _root_.List renaming filter_append->fD,map_append->fH
variable {how:Int}
theorem CC {l:List Rw}{k:Nat}{r:Rw}(h:l[k]?=some r)(hp:eR how r.1.1=true):cN how (l.take (k+1))=cN how (l.take k)++[((cR how r.1.1,r.1.2),r.2)]:=by
 unfold cN;rw[gL h,fD,fH];simp[hp]
theorem DN {l:List Rw}{k:Nat}{r:Rw}(h:l[k]?=some r)(hp:eR how r.1.1=false):cN how (l.take (k+1))=cN how (l.take k):=by
 unfold cN;rw[gL h,fD,fH];simp[hp]
theorem Au {l:List Rw}(h:aR l=true)(k:Nat):∀K V A B D:Int,l[k]?=some (((K,V),(A,B)),D)->0<=K/\K<=3/\0<=V/\V<=99/\bH A B=true:=fun K V A B D hr=>by
 have h1:=eY h (List.mem_of_getElem? hr);obtain⟨a,b,c,d⟩:=BY h1;exact⟨a,b,c,d,qY h1⟩
theorem KM {l:List Rw}(h:aR l=true):∀r∈cN how l,spOk r.1:=fun _ hr=>yA (eY (JV h) hr)
end Go.Proofs.YtbdpcngcbnoioaaGreatDoor
