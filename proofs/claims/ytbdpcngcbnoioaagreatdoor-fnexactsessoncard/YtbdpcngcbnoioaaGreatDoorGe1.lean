import Derived.Test.YtbdpcngcbnoioaaGreatDoorGl1
import Derived.Test.YtbdpcngcbnoioaaGreatDoorGt7
namespace Go.Proofs.YtbdpcngcbnoioaaGreatDoor
open Go.RowKit
theorem eachR_yes {how:Int} {l:List Rw} {k:Nat} {r:Rw} (h:l[k]?=some r) (hp:wayP how r.1.1=true):eachR how (l.take (k+1))=eachR how (l.take k)++[((wayM how r.1.1,r.1.2),r.2)]:=by
 unfold eachR;rw [tSz h,List.filter_append,List.map_append];simp [hp]
theorem eachR_no {how:Int} {l:List Rw} {k:Nat} {r:Rw} (h:l[k]?=some r) (hp:wayP how r.1.1=false):eachR how (l.take (k+1))=eachR how (l.take k):=by
 unfold eachR;rw [tSz h,List.filter_append,List.map_append];simp [hp]
theorem rok_kt {l:List Rw} (h:rokB l=true) (k:Nat):∀ K V A B D:Int,l[k]?=some (((K,V),(A,B)),D)->0<=K/\K<=3/\0<=V/\V<=99/\okB A B=true:=fun K V A B D hr=>by
 have h1:=rok_at h (List.mem_of_getElem? hr);obtain ⟨a,b,c,d⟩:=rw_k h1;exact ⟨a,b,c,d,rw_time h1⟩
theorem eachR_sp {how:Int} {l:List Rw} (h:rokB l=true):∀ r∈eachR how l,spOk r.1:=fun _ hr=>rw_sp (rok_at (eachR_rok h) hr)
end Go.Proofs.YtbdpcngcbnoioaaGreatDoor
