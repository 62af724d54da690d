import Derived.Test.YtbdpcngcbnoioaaGreatDoorGd3
import Derived.Test.YtbdpcngcbnoioaaGreatDoorGtX
namespace Go.Proofs.YtbdpcngcbnoioaaGreatDoor
open Go.RowKit
open _root_.Array renaming getElem?_eq_getElem->fM
section
theorem jC {ops:Array Oper}{L:Array Bool}(hs:L.size=ops.size)(hl:∀(i:Nat)(o:Oper),ops[i]?=some o->∀e∈o.after,Region.binds .any e=true->e.on<i)(hr:Region.ready .any ops L=[]):∀j,j<ops.size->L.getD j false=true:=by
 intro j
 induction j using Nat.strongRecOn with
 | _ j ih=>
  intro a;cases e:L.getD j false
  ·exfalso
   have hm:j∈Region.ready .any ops L:=mem_ready.2 ⟨by
    simp only[Array.getD_eq_getD_getElem?,fM (show j<L.size by omega)]at e ⊢;exact e,ops[j],fM a,fun x hx s=>ih x.on (hl j _ (fM a) x hx s) (by have:=hl j _ (fM a) x hx s;omega)⟩
   rw[hr]at hm;cases hm
  ·rfl
variable {g:Nat}{o:Value}{L:Array Bool}{W W':World}{t13 t14 t15 t16 t17 t18 t2 t3:Value}
end
open Go.RowKit
end Go.Proofs.YtbdpcngcbnoioaaGreatDoor
