import Derived.Test.YtbdpcngcbnoioaaGreatDoorGs7
import Derived.Test.YtbdpcngcbnoioaaGreatDoorGa8
import Derived.Test.YtbdpcngcbnoioaaGreatDoorGs2
namespace Go.Proofs.YtbdpcngcbnoioaaGreatDoor
open Go.RowKit
variable {g N:Nat} {L:Array Bool} {W W':World} {t3 t4 t5 t6 t7 t8 t9 t10 t11 t12 t13 t14 t15 t16 t17:Value}
theorem getD_set {L:Array Bool} {i j:Nat} (h:i≠j) (e:(L.setIfInBounds i true).getD j false=true):L.getD j false=true:=by
 simp only [Array.getD_eq_getD_getElem?,Array.getElem?_setIfInBounds] at e ⊢;rw [if_neg h] at e;exact e
theorem gS {L:Array Bool} {i j:Nat} (e:(L.setIfInBounds i true).getD j false=true) (h:i≠j:=by decide):L.getD j false=true:=getD_set h e
end Go.Proofs.YtbdpcngcbnoioaaGreatDoor
namespace Go.Proofs.YtbdpcngcbnoioaaGreatDoor
open Go.RowKit
section
variable {ops:Array Oper} {o:Oper} {a:Act} {Kk:Act->World->Prop} {Q:Exit->Act->World->Prop} {E:Prop}
theorem stepRs (w:World) (hgd:o.guard=none) (s x:Operand) (ho:o.op= .call { callee:= .builtin .append,args:=#[s,x],argTypes:=#[28,28] })
  (base:Nat) (v:Value) (l:List Rw) (hs:a.eval s=v) (hown:OwnR w base v l) (v2:Value) (m:List Rw) (hx:a.eval x=v2) (hR:Rs w v2 m) (hl:l.length+m.length<=2000000) (hbase:base<=w.heap.size)
  (h:∀ v' w',OwnR w' base v' (l++m)->w.grownBy w' v.ownBlock->Kk (a.put o.dst v') w') :
  if Region.wanted o (yielded ops a.tmps)=true then Oper.wp Tryz.prog o a w Kk Q else E:=by
 have hw:Region.wanted o (yielded ops a.tmps)=true:=by simp [Region.wanted,hgd]
 rw [if_pos hw];obtain ⟨i0,hi,hz0,hz1,hz2⟩:=info_parts infoR;obtain ⟨ad,cap,rfl,hsrc⟩:=rs_src hR
 by_cases hm0:m=[]
 ·subst hm0;have hrun:=app_zero hown ad cap o.type;unfold Oper.wp;simp [execOp,ho,resolve,invoke,builtin,hs,hx,hrun,Result.andThen];exact h v w (by simpa using hown) ⟨rfl,rfl,rfl,Nat.le_refl _,fun _ _ _=>rfl⟩
 ·obtain ⟨g,off,rfl,hnews⟩:=hsrc hm0;have hpos:0<m.length:=List.length_pos_iff.2 hm0;refine wp_append_lies w s x 28 ho base 55 i0 _ 5 40 Tryz.underlying28 hi hz0 hz1 hz2 rfl (by decide) v l.length (l.flatMap rowC) hs hown ⟨g,off,none⟩ m.length cap (m.flatMap rowC) hx (flat_len rowC_len m) hnews (onesRs m) hpos (by unfold maxLen;omega) (by omega) hbase w.heap.size rfl ?_;intro g' cap' w' h1 h2 _ _;refine h _ w' ?_ h2
  show w'.ownsRow _ _ _ _ _ _
  rw [List.flatMap_append,List.length_append];exact h1
end
end Go.Proofs.YtbdpcngcbnoioaaGreatDoor
namespace Go.Proofs.YtbdpcngcbnoioaaGreatDoor
open Go.RowKit
theorem implFrontOk_eq {l:LI} {r:Bool} (h:fokB l=r) {v:Value} {w:World} (ht:Ts w v l):Calls Tryz.prog 80 #[v] w fun e w'=>e= .returned (.bool r)/\Below w.heap.size w w':=by
 rw [<- h];exact implFrontOk_any v l w ht
end Go.Proofs.YtbdpcngcbnoioaaGreatDoor
namespace Go.Proofs.YtbdpcngcbnoioaaGreatDoor
open Go.RowKit
end Go.Proofs.YtbdpcngcbnoioaaGreatDoor
namespace Go.Proofs.YtbdpcngcbnoioaaGreatDoor
open Go.RowKit
end Go.Proofs.YtbdpcngcbnoioaaGreatDoor
