import Derived.Test.YtbdpcngcbnoioaaGreatDoorGl1
import Derived.Test.YtbdpcngcbnoioaaGreatDoorGt7
namespace Go.Proofs.YtbdpcngcbnoioaaGreatDoor
open Go.RowKit
open _root_.List renaming filter_append->fM,map_append->fQ
variable {how:Int}
theorem D5 {l:List Rw}{k:Nat}{r:Rw}(h:l[k]?=some r)(hp:cR how r.1.1=true):cJ how (l.take (k+1))=cJ how (l.take k)++[((bC how r.1.1,r.1.2),r.2)]:=by
 unfold cJ;rw[fK h,fM,fQ];simp[hp]
theorem Eh {l:List Rw}{k:Nat}{r:Rw}(h:l[k]?=some r)(hp:cR how r.1.1=false):cJ how (l.take (k+1))=cJ how (l.take k):=by
 unfold cJ;rw[fK h,fM,fQ];simp[hp]
theorem Bf {l:List Rw}(h:aZ l=true)(k:Nat):∀K V A B D:Int,l[k]?=some (((K,V),(A,B)),D)->0<=K/\K<=3/\0<=V/\V<=99/\bM A B=true:=fun K V A B D hr=>by
 have h1:=eZ h (List.mem_of_getElem? hr);obtain⟨a,b,c,d⟩:=CP h1;exact⟨a,b,c,d,pO h1⟩
theorem MN {l:List Rw}(h:aZ l=true):∀r∈cJ how l,spOk r.1:=fun _ hr=>zK (eZ (Jz h) hr)
end Go.Proofs.YtbdpcngcbnoioaaGreatDoor
