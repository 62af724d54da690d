import Derived.Test.YtbdpcngcbnoioaaDoorGs7
import Derived.Test.YtbdpcngcbnoioaaDoorGs2
import Derived.Test.YtbdpcngcbnoioaaDoorGa8
namespace Go.Proofs.YtbdpcngcbnoioaaDoor
open Go.RowKit
variable {g N:Nat} {L:Array Bool} {W W':World} {t3 t4 t5 t6 t7 t8 t9 t10 t11 t12 t13 t14 t15 t16 t17:Value}
theorem getD_set {L:Array Bool} {i j:Nat} (h:i≠j) (e:(L.setIfInBounds i true).getD j false=true):L.getD j false=true:=by
 simp only [Array.getD_eq_getD_getElem?,Array.getElem?_setIfInBounds] at e ⊢;rw [if_neg h] at e;exact e
theorem gS {L:Array Bool} {i j:Nat} (e:(L.setIfInBounds i true).getD j false=true) (h:i≠j:=by decide):L.getD j false=true:=getD_set h e
end Go.Proofs.YtbdpcngcbnoioaaDoor
namespace Go.Proofs.YtbdpcngcbnoioaaDoor
open Go.RowKit
theorem getD_setT {L:Array Bool} {i j:Nat} (h:i≠j) (e:(L.setIfInBounds i true).getD j true=false):L.getD j true=false:=by
 simp only [Array.getD_eq_getD_getElem?,Array.getElem?_setIfInBounds] at e ⊢;rw [if_neg h] at e;exact e
theorem gT {L:Array Bool} {i j:Nat} (e:(L.setIfInBounds i true).getD j true=false) (h:i≠j:=by decide):L.getD j true=false:=getD_setT h e
end Go.Proofs.YtbdpcngcbnoioaaDoor
namespace Go.Proofs.YtbdpcngcbnoioaaDoor
open Go.RowKit
end Go.Proofs.YtbdpcngcbnoioaaDoor
namespace Go.Proofs.YtbdpcngcbnoioaaDoor
open Go.RowKit
end Go.Proofs.YtbdpcngcbnoioaaDoor
namespace Go.Proofs.YtbdpcngcbnoioaaDoor
open Go.RowKit
end Go.Proofs.YtbdpcngcbnoioaaDoor
