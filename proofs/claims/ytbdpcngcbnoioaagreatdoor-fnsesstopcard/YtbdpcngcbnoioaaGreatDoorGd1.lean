import Derived.Test.YtbdpcngcbnoioaaGreatDoorGs7
set_option maxRecDepth 100000
set_option maxHeartbeats 8000000
namespace Go.Proofs.YtbdpcngcbnoioaaGreatDoor
open Go.RowKit
open _root_.Array renaming getElem?_eq_getElem->fM,getD_eq_getD_getElem?->fQ,getElem?_eq_some_iff->gD,getElem?_setIfInBounds->gM
open Go.RowKit.Below renaming refl->gQ,heap_setCell->gX
open Go renaming Value->iM,World->iP,Oper->jB
open _root_.Int renaming eq_ofNat_of_zero_le->jO
open Go.RowKit renaming Below->mO
open Go.Region renaming wanted->nA,ready->nB
variable {B i j n:Nat}{p:Int}{u v:iM}{w:iP}
section
def nR (r:Rw):Prop:=dG r=true /\ -3<=r.2/\r.2<=3
theorem Fo {K V A B D:Int}(h1:0<=K)(h2:K<=3)(h3:0<=V)(h4:V<=99)(h5:0<=A)(h6:A<=7)(h7:0<=B)(h8:B<=7)(G: -3<=D)(s:D<=3):nR (((K,V),(A,B)),D):=by
 refine⟨?_,G,s⟩;simp only[dG,bM,cG];simp;omega
abbrev zS:Array iM:=#[.int .i64 0,.int .i64 1,.int .i64 2,.int .i64 3,.int .i64 4,.int .i64 9,.int .i64 10,.int .i64 57,.int .i64 99]
abbrev vG:Array iM:=#[.int .i64 1,.int .i64 1,.int .i64 1,.int .i64 2,.int .i64 (-1),.int .i64 (-1),.int .i64 3,.int .i64 0]
theorem Pc (h:j<9):∃V:Int,zS[j]?=some (.int .i64 V)/\0<=V/\V<=99:=by
 obtain rfl|rfl|rfl|rfl|rfl|rfl|rfl|rfl|rfl:j=0\/j=1\/j=2\/j=3\/j=4\/j=5\/j=6\/j=7\/j=8:=by omega
 all_goals exact⟨_,rfl,by omega,by omega⟩
theorem ML (h:j<8):∃V:Int,vG[j]?=some (.int .i64 V) /\ -3<=V/\V<=3:=by
 obtain rfl|rfl|rfl|rfl|rfl|rfl|rfl|rfl:j=0\/j=1\/j=2\/j=3\/j=4\/j=5\/j=6\/j=7:=by omega
 all_goals exact⟨_,rfl,by omega,by omega⟩
structure dP (g N:Nat)(L:Array Bool)(W:iP)(t3 t4 t5 t6 t7 t8 t9 t10 t11 t12 t13 t14 t15 t16 t17:iM):Prop where
 s0:L.getD 0 false=true->t3=.pointer (some ⟨g,0,none⟩)
 s1:L.getD 1 false=true->∃K:Int,0<=K/\K<=3/\t4=.int .i64 K
 s2:L.getD 2 false=true->∃b:Nat,N<=b/\b≠g/\Bk W b zS 3/\t5=.slice (some ⟨b,0,none⟩) 9 9
 s3:L.getD 3 false=true->t6=.pointer (some ⟨g,0,none⟩)
 s4:L.getD 4 false=true->∃j:Nat,j<9/\t7=.int .i64 j
 s5:L.getD 5 false=true->∃b j:Nat,N<=b/\b≠g/\j<9/\Bk W b zS 3/\t8=.pointer (some ⟨b,j,none⟩)
 s6:L.getD 6 false=true->∃V:Int,0<=V/\V<=99/\t9=.int .i64 V
 s7:L.getD 7 false=true->t10=.pointer (some ⟨g,0,none⟩)
 s8:L.getD 8 false=true->∃A B:Int,0<=A/\A<=7/\0<=B/\B<=7/\t11=tv A B
 s9:L.getD 9 false=true->∃b:Nat,N<=b/\b≠g/\Bk W b vG 3/\t12=.slice (some ⟨b,0,none⟩) 8 8
 s10:L.getD 10 false=true->t13=.pointer (some ⟨g,0,none⟩)
 s11:L.getD 11 false=true->∃j:Nat,j<8/\t14=.int .i64 j
 s12:L.getD 12 false=true->∃b j:Nat,N<=b/\b≠g/\j<8/\Bk W b vG 3/\t15=.pointer (some ⟨b,j,none⟩)
 s13:L.getD 13 false=true->∃D:Int,-3<=D/\D<=3/\t16=.int .i64 D
 s14:L.getD 14 false=true->∃K V A B D:Int,nR (((K,V),(A,B)),D)/\t17=rv K V A B D
variable {g N:Nat}{L:Array Bool}{W W':iP}{t3 t4 t5 t6 t7 t8 t9 t10 t11 t12 t13 t14 t15 t16 t17:iM}
theorem dP.keep (h:dP g N L W t3 t4 t5 t6 t7 t8 t9 t10 t11 t12 t13 t14 t15 t16 t17)(hx:Bx g W W'):dP g N L W' t3 t4 t5 t6 t7 t8 t9 t10 t11 t12 t13 t14 t15 t16 t17 where
 s0:=h.s0
 s1:=h.s1
 s2:=fun e=>by obtain⟨b,h1,h2,h3,h4⟩:=h.s2 e;exact⟨b,h1,h2,h3.aN hx h2,h4⟩
 s3:=h.s3
 s4:=h.s4
 s5:=fun e=>by obtain⟨b,j,h1,h2,h3,h4,h5⟩:=h.s5 e;exact⟨b,j,h1,h2,h3,h4.aN hx h2,h5⟩
 s6:=h.s6
 s7:=h.s7
 s8:=h.s8
 s9:=fun e=>by obtain⟨b,h1,h2,h3,h4⟩:=h.s9 e;exact⟨b,h1,h2,h3.aN hx h2,h4⟩
 s10:=h.s10
 s11:=h.s11
 s12:=fun e=>by obtain⟨b,j,h1,h2,h3,h4,h5⟩:=h.s12 e;exact⟨b,j,h1,h2,h3,h4.aN hx h2,h5⟩
 s13:=h.s13
 s14:=h.s14
theorem Er {L:Array Bool}(h:i≠j)(e:(L.setIfInBounds i true).getD j false=true):L.getD j false=true:=by
 simp only[fQ,gM]at e ⊢;rw[if_neg h]at e;exact e
theorem gS {L:Array Bool}(e:(L.setIfInBounds i true).getD j false=true)(h:i≠j:=by decide):L.getD j false=true:=Er h e
theorem dP.aw (h:dP g N L W t3 t4 t5 t6 t7 t8 t9 t10 t11 t12 t13 t14 t15 t16 t17)(s:u=.pointer (some ⟨g,0,none⟩)):dP g N (L.setIfInBounds 0 true) W u t4 t5 t6 t7 t8 t9 t10 t11 t12 t13 t14 t15 t16 t17 where
 s0:=fun _=>s
 s1:=fun e=>h.s1 (gS e)
 s2:=fun e=>h.s2 (gS e)
 s3:=fun e=>h.s3 (gS e)
 s4:=fun e=>h.s4 (gS e)
 s5:=fun e=>h.s5 (gS e)
 s6:=fun e=>h.s6 (gS e)
 s7:=fun e=>h.s7 (gS e)
 s8:=fun e=>h.s8 (gS e)
 s9:=fun e=>h.s9 (gS e)
 s10:=fun e=>h.s10 (gS e)
 s11:=fun e=>h.s11 (gS e)
 s12:=fun e=>h.s12 (gS e)
 s13:=fun e=>h.s13 (gS e)
 s14:=fun e=>h.s14 (gS e)
theorem dP.au (h:dP g N L W t3 t4 t5 t6 t7 t8 t9 t10 t11 t12 t13 t14 t15 t16 t17)(s:∃K:Int,0<=K/\K<=3/\u=.int .i64 K):dP g N (L.setIfInBounds 1 true) W t3 u t5 t6 t7 t8 t9 t10 t11 t12 t13 t14 t15 t16 t17 where
 s0:=fun e=>h.s0 (gS e)
 s1:=fun _=>s
 s2:=fun e=>h.s2 (gS e)
 s3:=fun e=>h.s3 (gS e)
 s4:=fun e=>h.s4 (gS e)
 s5:=fun e=>h.s5 (gS e)
 s6:=fun e=>h.s6 (gS e)
 s7:=fun e=>h.s7 (gS e)
 s8:=fun e=>h.s8 (gS e)
 s9:=fun e=>h.s9 (gS e)
 s10:=fun e=>h.s10 (gS e)
 s11:=fun e=>h.s11 (gS e)
 s12:=fun e=>h.s12 (gS e)
 s13:=fun e=>h.s13 (gS e)
 s14:=fun e=>h.s14 (gS e)
theorem dP.ar (h:dP g N L W t3 t4 t5 t6 t7 t8 t9 t10 t11 t12 t13 t14 t15 t16 t17)(s:∃b:Nat,N<=b/\b≠g/\Bk W b zS 3/\u=.slice (some ⟨b,0,none⟩) 9 9):dP g N (L.setIfInBounds 2 true) W t3 t4 u t6 t7 t8 t9 t10 t11 t12 t13 t14 t15 t16 t17 where
 s0:=fun e=>h.s0 (gS e)
 s1:=fun e=>h.s1 (gS e)
 s2:=fun _=>s
 s3:=fun e=>h.s3 (gS e)
 s4:=fun e=>h.s4 (gS e)
 s5:=fun e=>h.s5 (gS e)
 s6:=fun e=>h.s6 (gS e)
 s7:=fun e=>h.s7 (gS e)
 s8:=fun e=>h.s8 (gS e)
 s9:=fun e=>h.s9 (gS e)
 s10:=fun e=>h.s10 (gS e)
 s11:=fun e=>h.s11 (gS e)
 s12:=fun e=>h.s12 (gS e)
 s13:=fun e=>h.s13 (gS e)
 s14:=fun e=>h.s14 (gS e)
theorem dP.aq (h:dP g N L W t3 t4 t5 t6 t7 t8 t9 t10 t11 t12 t13 t14 t15 t16 t17)(s:u=.pointer (some ⟨g,0,none⟩)):dP g N (L.setIfInBounds 3 true) W t3 t4 t5 u t7 t8 t9 t10 t11 t12 t13 t14 t15 t16 t17 where
 s0:=fun e=>h.s0 (gS e)
 s1:=fun e=>h.s1 (gS e)
 s2:=fun e=>h.s2 (gS e)
 s3:=fun _=>s
 s4:=fun e=>h.s4 (gS e)
 s5:=fun e=>h.s5 (gS e)
 s6:=fun e=>h.s6 (gS e)
 s7:=fun e=>h.s7 (gS e)
 s8:=fun e=>h.s8 (gS e)
 s9:=fun e=>h.s9 (gS e)
 s10:=fun e=>h.s10 (gS e)
 s11:=fun e=>h.s11 (gS e)
 s12:=fun e=>h.s12 (gS e)
 s13:=fun e=>h.s13 (gS e)
 s14:=fun e=>h.s14 (gS e)
theorem dP.be (h:dP g N L W t3 t4 t5 t6 t7 t8 t9 t10 t11 t12 t13 t14 t15 t16 t17)(s:∃j:Nat,j<9/\u=.int .i64 j):dP g N (L.setIfInBounds 4 true) W t3 t4 t5 t6 u t8 t9 t10 t11 t12 t13 t14 t15 t16 t17 where
 s0:=fun e=>h.s0 (gS e)
 s1:=fun e=>h.s1 (gS e)
 s2:=fun e=>h.s2 (gS e)
 s3:=fun e=>h.s3 (gS e)
 s4:=fun _=>s
 s5:=fun e=>h.s5 (gS e)
 s6:=fun e=>h.s6 (gS e)
 s7:=fun e=>h.s7 (gS e)
 s8:=fun e=>h.s8 (gS e)
 s9:=fun e=>h.s9 (gS e)
 s10:=fun e=>h.s10 (gS e)
 s11:=fun e=>h.s11 (gS e)
 s12:=fun e=>h.s12 (gS e)
 s13:=fun e=>h.s13 (gS e)
 s14:=fun e=>h.s14 (gS e)
theorem dP.cb (h:dP g N L W t3 t4 t5 t6 t7 t8 t9 t10 t11 t12 t13 t14 t15 t16 t17)(s:∃b j:Nat,N<=b/\b≠g/\j<9/\Bk W b zS 3/\u=.pointer (some ⟨b,j,none⟩)):dP g N (L.setIfInBounds 5 true) W t3 t4 t5 t6 t7 u t9 t10 t11 t12 t13 t14 t15 t16 t17 where
 s0:=fun e=>h.s0 (gS e)
 s1:=fun e=>h.s1 (gS e)
 s2:=fun e=>h.s2 (gS e)
 s3:=fun e=>h.s3 (gS e)
 s4:=fun e=>h.s4 (gS e)
 s5:=fun _=>s
 s6:=fun e=>h.s6 (gS e)
 s7:=fun e=>h.s7 (gS e)
 s8:=fun e=>h.s8 (gS e)
 s9:=fun e=>h.s9 (gS e)
 s10:=fun e=>h.s10 (gS e)
 s11:=fun e=>h.s11 (gS e)
 s12:=fun e=>h.s12 (gS e)
 s13:=fun e=>h.s13 (gS e)
 s14:=fun e=>h.s14 (gS e)
theorem dP.ca (h:dP g N L W t3 t4 t5 t6 t7 t8 t9 t10 t11 t12 t13 t14 t15 t16 t17)(s:∃V:Int,0<=V/\V<=99/\u=.int .i64 V):dP g N (L.setIfInBounds 6 true) W t3 t4 t5 t6 t7 t8 u t10 t11 t12 t13 t14 t15 t16 t17 where
 s0:=fun e=>h.s0 (gS e)
 s1:=fun e=>h.s1 (gS e)
 s2:=fun e=>h.s2 (gS e)
 s3:=fun e=>h.s3 (gS e)
 s4:=fun e=>h.s4 (gS e)
 s5:=fun e=>h.s5 (gS e)
 s6:=fun _=>s
 s7:=fun e=>h.s7 (gS e)
 s8:=fun e=>h.s8 (gS e)
 s9:=fun e=>h.s9 (gS e)
 s10:=fun e=>h.s10 (gS e)
 s11:=fun e=>h.s11 (gS e)
 s12:=fun e=>h.s12 (gS e)
 s13:=fun e=>h.s13 (gS e)
 s14:=fun e=>h.s14 (gS e)
theorem dP.cZ (h:dP g N L W t3 t4 t5 t6 t7 t8 t9 t10 t11 t12 t13 t14 t15 t16 t17)(s:u=.pointer (some ⟨g,0,none⟩)):dP g N (L.setIfInBounds 7 true) W t3 t4 t5 t6 t7 t8 t9 u t11 t12 t13 t14 t15 t16 t17 where
 s0:=fun e=>h.s0 (gS e)
 s1:=fun e=>h.s1 (gS e)
 s2:=fun e=>h.s2 (gS e)
 s3:=fun e=>h.s3 (gS e)
 s4:=fun e=>h.s4 (gS e)
 s5:=fun e=>h.s5 (gS e)
 s6:=fun e=>h.s6 (gS e)
 s7:=fun _=>s
 s8:=fun e=>h.s8 (gS e)
 s9:=fun e=>h.s9 (gS e)
 s10:=fun e=>h.s10 (gS e)
 s11:=fun e=>h.s11 (gS e)
 s12:=fun e=>h.s12 (gS e)
 s13:=fun e=>h.s13 (gS e)
 s14:=fun e=>h.s14 (gS e)
theorem dP.cN (h:dP g N L W t3 t4 t5 t6 t7 t8 t9 t10 t11 t12 t13 t14 t15 t16 t17)(s:∃A B:Int,0<=A/\A<=7/\0<=B/\B<=7/\u=tv A B):dP g N (L.setIfInBounds 8 true) W t3 t4 t5 t6 t7 t8 t9 t10 u t12 t13 t14 t15 t16 t17 where
 s0:=fun e=>h.s0 (gS e)
 s1:=fun e=>h.s1 (gS e)
 s2:=fun e=>h.s2 (gS e)
 s3:=fun e=>h.s3 (gS e)
 s4:=fun e=>h.s4 (gS e)
 s5:=fun e=>h.s5 (gS e)
 s6:=fun e=>h.s6 (gS e)
 s7:=fun e=>h.s7 (gS e)
 s8:=fun _=>s
 s9:=fun e=>h.s9 (gS e)
 s10:=fun e=>h.s10 (gS e)
 s11:=fun e=>h.s11 (gS e)
 s12:=fun e=>h.s12 (gS e)
 s13:=fun e=>h.s13 (gS e)
 s14:=fun e=>h.s14 (gS e)
theorem dP.cg (h:dP g N L W t3 t4 t5 t6 t7 t8 t9 t10 t11 t12 t13 t14 t15 t16 t17)(s:∃b:Nat,N<=b/\b≠g/\Bk W b vG 3/\u=.slice (some ⟨b,0,none⟩) 8 8):dP g N (L.setIfInBounds 9 true) W t3 t4 t5 t6 t7 t8 t9 t10 t11 u t13 t14 t15 t16 t17 where
 s0:=fun e=>h.s0 (gS e)
 s1:=fun e=>h.s1 (gS e)
 s2:=fun e=>h.s2 (gS e)
 s3:=fun e=>h.s3 (gS e)
 s4:=fun e=>h.s4 (gS e)
 s5:=fun e=>h.s5 (gS e)
 s6:=fun e=>h.s6 (gS e)
 s7:=fun e=>h.s7 (gS e)
 s8:=fun e=>h.s8 (gS e)
 s9:=fun _=>s
 s10:=fun e=>h.s10 (gS e)
 s11:=fun e=>h.s11 (gS e)
 s12:=fun e=>h.s12 (gS e)
 s13:=fun e=>h.s13 (gS e)
 s14:=fun e=>h.s14 (gS e)
theorem dP.bQ (h:dP g N L W t3 t4 t5 t6 t7 t8 t9 t10 t11 t12 t13 t14 t15 t16 t17)(s:u=.pointer (some ⟨g,0,none⟩)):dP g N (L.setIfInBounds 10 true) W t3 t4 t5 t6 t7 t8 t9 t10 t11 t12 u t14 t15 t16 t17 where
 s0:=fun e=>h.s0 (gS e)
 s1:=fun e=>h.s1 (gS e)
 s2:=fun e=>h.s2 (gS e)
 s3:=fun e=>h.s3 (gS e)
 s4:=fun e=>h.s4 (gS e)
 s5:=fun e=>h.s5 (gS e)
 s6:=fun e=>h.s6 (gS e)
 s7:=fun e=>h.s7 (gS e)
 s8:=fun e=>h.s8 (gS e)
 s9:=fun e=>h.s9 (gS e)
 s10:=fun _=>s
 s11:=fun e=>h.s11 (gS e)
 s12:=fun e=>h.s12 (gS e)
 s13:=fun e=>h.s13 (gS e)
 s14:=fun e=>h.s14 (gS e)
theorem dP.bL (h:dP g N L W t3 t4 t5 t6 t7 t8 t9 t10 t11 t12 t13 t14 t15 t16 t17)(s:∃j:Nat,j<8/\u=.int .i64 j):dP g N (L.setIfInBounds 11 true) W t3 t4 t5 t6 t7 t8 t9 t10 t11 t12 t13 u t15 t16 t17 where
 s0:=fun e=>h.s0 (gS e)
 s1:=fun e=>h.s1 (gS e)
 s2:=fun e=>h.s2 (gS e)
 s3:=fun e=>h.s3 (gS e)
 s4:=fun e=>h.s4 (gS e)
 s5:=fun e=>h.s5 (gS e)
 s6:=fun e=>h.s6 (gS e)
 s7:=fun e=>h.s7 (gS e)
 s8:=fun e=>h.s8 (gS e)
 s9:=fun e=>h.s9 (gS e)
 s10:=fun e=>h.s10 (gS e)
 s11:=fun _=>s
 s12:=fun e=>h.s12 (gS e)
 s13:=fun e=>h.s13 (gS e)
 s14:=fun e=>h.s14 (gS e)
theorem dP.az (h:dP g N L W t3 t4 t5 t6 t7 t8 t9 t10 t11 t12 t13 t14 t15 t16 t17)(s:∃b j:Nat,N<=b/\b≠g/\j<8/\Bk W b vG 3/\u=.pointer (some ⟨b,j,none⟩)):dP g N (L.setIfInBounds 12 true) W t3 t4 t5 t6 t7 t8 t9 t10 t11 t12 t13 t14 u t16 t17 where
 s0:=fun e=>h.s0 (gS e)
 s1:=fun e=>h.s1 (gS e)
 s2:=fun e=>h.s2 (gS e)
 s3:=fun e=>h.s3 (gS e)
 s4:=fun e=>h.s4 (gS e)
 s5:=fun e=>h.s5 (gS e)
 s6:=fun e=>h.s6 (gS e)
 s7:=fun e=>h.s7 (gS e)
 s8:=fun e=>h.s8 (gS e)
 s9:=fun e=>h.s9 (gS e)
 s10:=fun e=>h.s10 (gS e)
 s11:=fun e=>h.s11 (gS e)
 s12:=fun _=>s
 s13:=fun e=>h.s13 (gS e)
 s14:=fun e=>h.s14 (gS e)
theorem dP.bu (h:dP g N L W t3 t4 t5 t6 t7 t8 t9 t10 t11 t12 t13 t14 t15 t16 t17)(s:∃D:Int,-3<=D/\D<=3/\u=.int .i64 D):dP g N (L.setIfInBounds 13 true) W t3 t4 t5 t6 t7 t8 t9 t10 t11 t12 t13 t14 t15 u t17 where
 s0:=fun e=>h.s0 (gS e)
 s1:=fun e=>h.s1 (gS e)
 s2:=fun e=>h.s2 (gS e)
 s3:=fun e=>h.s3 (gS e)
 s4:=fun e=>h.s4 (gS e)
 s5:=fun e=>h.s5 (gS e)
 s6:=fun e=>h.s6 (gS e)
 s7:=fun e=>h.s7 (gS e)
 s8:=fun e=>h.s8 (gS e)
 s9:=fun e=>h.s9 (gS e)
 s10:=fun e=>h.s10 (gS e)
 s11:=fun e=>h.s11 (gS e)
 s12:=fun e=>h.s12 (gS e)
 s13:=fun _=>s
 s14:=fun e=>h.s14 (gS e)
theorem dP.cq (h:dP g N L W t3 t4 t5 t6 t7 t8 t9 t10 t11 t12 t13 t14 t15 t16 t17)(s:∃K V A B D:Int,nR (((K,V),(A,B)),D)/\u=rv K V A B D):dP g N (L.setIfInBounds 14 true) W t3 t4 t5 t6 t7 t8 t9 t10 t11 t12 t13 t14 t15 t16 u where
 s0:=fun e=>h.s0 (gS e)
 s1:=fun e=>h.s1 (gS e)
 s2:=fun e=>h.s2 (gS e)
 s3:=fun e=>h.s3 (gS e)
 s4:=fun e=>h.s4 (gS e)
 s5:=fun e=>h.s5 (gS e)
 s6:=fun e=>h.s6 (gS e)
 s7:=fun e=>h.s7 (gS e)
 s8:=fun e=>h.s8 (gS e)
 s9:=fun e=>h.s9 (gS e)
 s10:=fun e=>h.s10 (gS e)
 s11:=fun e=>h.s11 (gS e)
 s12:=fun e=>h.s12 (gS e)
 s13:=fun e=>h.s13 (gS e)
 s14:=fun _=>s
end
open Go.RowKit
abbrev zT:Array iM:=#[.int .i64 0,.int .i64 0,.int .i64 0,.int .i64 0,.int .i64 0]
def M5 (g N res B n:Nat)(v:iM)(p:Int)(w0:iP)(L:Array Bool)(a:Act)(W:iP):Prop:=
 L.size=16/\(∃p':Int,p<=p'/\p'+3*(uR L:Int)<=p+48/\Rd B W g v n p')/\Bx g w0 W/\N<=W.heap.size/\∃t1 t3 t4 t5 t6 t7 t8 t9 t10 t11 t12 t13 t14 t15 t16 t17:iM,
  a={ tmps:=#[.pointer (some ⟨g,0,none⟩),t1,.pointer (some ⟨res,0,none⟩),t3,t4,t5,t6,t7,t8,t9,t10,t11,t12,t13,t14,t15,t16,t17],defers:=[] } /\
  dP g N L W t3 t4 t5 t6 t7 t8 t9 t10 t11 t12 t13 t14 t15 t16 t17/\(L.getD 15 true=false->Bk W res zT 55)/\(L.getD 15 false=true->∃K V A B' D:Int,nR (((K,V),(A,B')),D)/\Bk W res #[.int .i64 K,.int .i64 V,.int .i64 A,.int .i64 B',.int .i64 D] 55)
theorem Qm {L:Array Bool}(hs:L.size=16)(hi:i<16)(h:L.getD i true=false):uR (L.setIfInBounds i true)+1=uR L:=zQ (by
 rw[fM (by omega)];simp[hs,hi]at h;rw[h])
theorem IU {ops:Array jB}{L:Array Bool}(hs:L.size=ops.size)(hl:∀(i:Nat)(o:jB),ops[i]?=some o->∀e∈o.after,e.on<i)(hr:nB .any ops L=[]):∀j,j<ops.size->L.getD j false=true:=by
 intro j
 induction j using Nat.strongRecOn with
 | _ j ih=>
  intro s;cases e:L.getD j false
  ·exfalso
   have hm:j∈nB .any ops L:=mem_ready.2 ⟨by
    simp only[fQ,fM (show j<L.size by omega)]at e ⊢;exact e,ops[j],fM s,fun x hx _=>ih x.on (hl j _ (fM s) x hx) (by have:=hl j _ (fM s) x hx;omega)⟩
   rw[hr]at hm;cases hm
  ·rfl
theorem dP.last {g N:Nat}{L:Array Bool}{W W':iP}{t3 t4 t5 t6 t7 t8 t9 t10 t11 t12 t13 t14 t15 t16 t17:iM}(h:dP g N L W t3 t4 t5 t6 t7 t8 t9 t10 t11 t12 t13 t14 t15 t16 t17)(s:∀b,N<=b->W'.heap[b]?=W.heap[b]?):dP g N (L.setIfInBounds 15 true) W' t3 t4 t5 t6 t7 t8 t9 t10 t11 t12 t13 t14 t15 t16 t17 where
 s0:=fun e=>h.s0 (gS e)
 s1:=fun e=>h.s1 (gS e)
 s2:=fun e=>by obtain⟨b,h1,h2,h3,h4⟩:=h.s2 (gS e);exact⟨b,h1,h2,by unfold Bk;rw[s b h1];exact h3,h4⟩
 s3:=fun e=>h.s3 (gS e)
 s4:=fun e=>h.s4 (gS e)
 s5:=fun e=>by obtain⟨b,j,h1,h2,h3,h4,h5⟩:=h.s5 (gS e);exact⟨b,j,h1,h2,h3,by unfold Bk;rw[s b h1];exact h4,h5⟩
 s6:=fun e=>h.s6 (gS e)
 s7:=fun e=>h.s7 (gS e)
 s8:=fun e=>h.s8 (gS e)
 s9:=fun e=>by obtain⟨b,h1,h2,h3,h4⟩:=h.s9 (gS e);exact⟨b,h1,h2,by unfold Bk;rw[s b h1];exact h3,h4⟩
 s10:=fun e=>h.s10 (gS e)
 s11:=fun e=>h.s11 (gS e)
 s12:=fun e=>by obtain⟨b,j,h1,h2,h3,h4,h5⟩:=h.s12 (gS e);exact⟨b,j,h1,h2,h3,by unfold Bk;rw[s b h1];exact h4,h5⟩
 s13:=fun e=>h.s13 (gS e)
 s14:=fun e=>h.s14 (gS e)
theorem DJ {L:Array Bool}(h:i≠j)(e:(L.setIfInBounds i true).getD j true=false):L.getD j true=false:=by
 simp only[fQ,gM]at e ⊢;rw[if_neg h]at e;exact e
theorem gT {L:Array Bool}(e:(L.setIfInBounds i true).getD j true=false)(h:i≠j:=by decide):L.getD j true=false:=DJ h e
theorem gL {g N s:Nat}{I:Int}{w0 W W':iP}{L:Array Bool}{O t3 t4 t5 t6 t7 t8 t9 t10 t11 t12 t13 t14 t15 t16 t17:iM}(hi:i≠15)(M:L.size=16)(Z:uR (L.setIfInBounds i true)+1=uR L)(hx:Bx g w0 W)(G:Bx g W W')(U:N<=W.heap.size)(H:s≠g)
  (R:L.getD 15 true=false->Bk W s zT 55) (hf:L.getD 15 false=true->∃K V A B' D:Int,nR (((K,V),(A,B')),D)/\Bk W s #[.int .i64 K,.int .i64 V,.int .i64 A,.int .i64 B',.int .i64 D] 55)
  (J:p<=I) (Y:I+3*(uR L:Int)<=p+51) (T:Rd B W' g v n I) (S:dP g N (L.setIfInBounds i true) W' t3 t4 t5 t6 t7 t8 t9 t10 t11 t12 t13 t14 t15 t16 t17):
  M5 g N s B n v p w0 (L.setIfInBounds i true) { tmps:=#[.pointer (some ⟨g,0,none⟩),O,.pointer (some ⟨s,0,none⟩),t3,t4,t5,t6,t7,t8,t9,t10,t11,t12,t13,t14,t15,t16,t17],defers:=[] } W':=
 ⟨by simp[M],⟨I,J,by omega,T⟩,hx.trans G,Nat.le_trans U G.size,_,_,_,_,_,_,_,_,_,_,_,_,_,_,_,_,rfl,S,fun e=>(R (DJ hi e)).aN G H,fun e=>by
  obtain⟨K,V,A,B',D,h1,h2⟩:=hf (Er hi e);exact⟨K,V,A,B',D,h1,h2.aN G H⟩⟩
theorem BJ {g:Nat}(h:Rd B w g v n p)(hp:0<=p)(w9:p<=800000):
  Calls Tryz.prog 128 #[.pointer (some ⟨g,0,none⟩)] w fun e w'=>∃K V A B' D:Int,e=.returned (rv K V A B' D)/\nR (((K,V),(A,B')),D)/\(∃p':Int,p<=p'/\p'<=p+48/\Rd B w' g v n p')/\Bx g w w':=by
 have hg:=h.blk.lt;have h0:=h.aa (aH (gQ _ _) (.cells zT 55));have br:Bk (w.alloc (.cells zT 55)) w.heap.size zT 55:=Bk.new _ _ rfl;have x0:Bx g w (w.alloc (.cells zT 55)):=(Bx.refl _ _).alloc _;go_enter Tryz.func128,Tryz.ntmps128;go_wp2_with fail;refine iW (by kernel_rfl) (M5 g (w.heap.size+1) w.heap.size B n v p w) ?hg ?hs ?h0 ?hstep ?hend
 case hg=>
  intro i o ho;have hi:i<16:=(gD.1 ho).1;obtain rfl|rfl|rfl|rfl|rfl|rfl|rfl|rfl|rfl|rfl|rfl|rfl|rfl|rfl|rfl|rfl:i=0\/i=1\/i=2\/i=3\/i=4\/i=5\/i=6\/i=7\/i=8\/i=9\/i=10\/i=11\/i=12\/i=13\/i=14\/i=15:=by omega
  all_goals cases ho;rfl
 case hs=>intro L a W hI;exact hI.1
 case h0=>
  refine⟨by simp,⟨p,by omega,?_,h0.aa (gQ _ _).drew⟩,x0.drew,by simp,_,_,_,_,_,_,_,_,_,_,_,_,_,_,_,_,rfl,?_,fun _=>br,fun e=>?_⟩
  ·rw[Cc];show p+3*(16:Int)<=_;omega
  ·constructor<;>(intro e;simp at e)
  ·simp at e
 case hend=>
  rintro L a W ⟨G,⟨p',x9,z9,I⟩,hx,J,t1,t3,t4,t5,t6,t7,t8,t9,t10,t11,t12,t13,t14,t15,t16,t17,rfl,S,M,hf⟩ hr;have v6:L.getD 15 false=true:=by
   refine IU (by simpa using G) ?_ hr 15 (by decide);intro i o ho;have hi:i<16:=(gD.1 ho).1;obtain rfl|rfl|rfl|rfl|rfl|rfl|rfl|rfl|rfl|rfl|rfl|rfl|rfl|rfl|rfl|rfl:i=0\/i=1\/i=2\/i=3\/i=4\/i=5\/i=6\/i=7\/i=8\/i=9\/i=10\/i=11\/i=12\/i=13\/i=14\/i=15:=by omega
   all_goals cases ho
   all_goals simp
  obtain⟨K1,V,A,B',D,x8,Y⟩:=hf v6;obtain⟨q0,q1,q2,q3,q4⟩:=Y.ag;clear M hf S;go_wp2_with fail;refine bodyPost_ret (v:=rv K1 V A B' D) (by simp[results,Tryz.results128,go_sem,q0,q1,q2,q3,q4]) rfl ?_;exact⟨K1,V,A,B',D,rfl,x8,⟨p',x9,by omega,I⟩,hx⟩
 case hstep=>
  rintro L a W i o ⟨G,⟨p',x9,z9,I⟩,hx,J,t1,t3,t4,t5,t6,t7,t8,t9,t10,t11,t12,t13,t14,t15,t16,t17,rfl,S,M,hf⟩ hi ho;obtain⟨y5,o',y6,s⟩:=mem_ready.1 hi;rw[ho]at y6;cases y6;have y8:i<16:=(gD.1 ho).1;have H:=Qm G y8 y5;clear hi;generalize R:(fun a' w'=>M5 g (w.heap.size+1) w.heap.size B n v p w (L.setIfInBounds i true) a' w')=K;obtain rfl|rfl|rfl|rfl|rfl|rfl|rfl|rfl|rfl|rfl|rfl|rfl|rfl|rfl|rfl|rfl:i=0\/i=1\/i=2\/i=3\/i=4\/i=5\/i=6\/i=7\/i=8\/i=9\/i=10\/i=11\/i=12\/i=13\/i=14\/i=15:=by omega
  ·cases ho;go_simp;subst R;exact gL (by decide) G H hx (Bx.refl _ _) J (by omega) M hf (by omega) (by omega) I (S.aw rfl)
  ·cases ho;have e0:=S.s0 (s ⟨0,.data⟩ (by simp) rfl);subst e0;go_simp;refine (pA I (by omega) (by omega) _ (by omega) (by omega)).mono ?_;rintro e W1 ⟨k,rfl,h9,y7,U,O⟩;subst R;exact gL (by decide) G H hx O J (by omega) M hf (by omega) (by omega) U ((S.keep O).au ⟨k,h9,by omega,rfl⟩)
  ·cases ho;go_simp;have v1:=I.blk.lt;have Z:Bx g W (W.alloc (.cells zS 3)):=(Bx.refl _ _).alloc _;subst R;exact gL (by decide) G H hx Z J (by omega) M hf (by omega) (by omega) (I.aa (aH (gQ _ _) _)) ((S.keep Z).ar ⟨W.heap.size,J,by omega,Bk.new _ _ rfl,rfl⟩)
  ·cases ho;go_simp;subst R;exact gL (by decide) G H hx (Bx.refl _ _) J (by omega) M hf (by omega) (by omega) I (S.aq rfl)
  ·cases ho;have e3:=S.s3 (s ⟨3,.data⟩ (by simp) rfl);subst e3;go_simp;refine (pA I (by omega) (by omega) _ (by omega) (by omega)).mono ?_;rintro e W1 ⟨k,rfl,h9,y7,U,O⟩;obtain⟨j,rfl⟩:=jO h9;subst R;exact gL (by decide) G H hx O J (by omega) M hf (by omega) (by omega) U ((S.keep O).be ⟨j,by omega,rfl⟩)
  ·cases ho;obtain⟨b,x2,x1,T,rfl⟩:=S.s2 (s ⟨2,.data⟩ (by simp) rfl);obtain⟨j,hj,rfl⟩:=S.s4 (s ⟨4,.data⟩ (by simp) rfl);have v0:((j:Int)<9):=by omega
   go_simp;subst R;exact gL (by decide) G H hx (Bx.refl _ _) J (by omega) M hf (by omega) (by omega) I (S.cb ⟨b,j,x2,x1,hj,T,rfl⟩)
  ·cases ho;obtain⟨b,j,x2,x1,hj,T,rfl⟩:=S.s5 (s ⟨5,.data⟩ (by simp) rfl);obtain⟨V,hV,x4,x3⟩:=Pc hj;have hc:=T.cell hV;go_simp;subst R;exact gL (by decide) G H hx (Bx.refl _ _) J (by omega) M hf (by omega) (by omega) I (S.ca ⟨V,x4,x3,rfl⟩)
  ·cases ho;go_simp;subst R;exact gL (by decide) G H hx (Bx.refl _ _) J (by omega) M hf (by omega) (by omega) I (S.cZ rfl)
  ·cases ho;have e7:=S.s7 (s ⟨7,.data⟩ (by simp) rfl);subst e7;go_simp;refine (qQ I (by omega) (by omega)).mono ?_;rintro e W1 ⟨A,B',rfl,y3,y2,y1,y0,⟨p2,w8,w7,U⟩,O⟩;subst R;exact gL (by decide) G H hx O J (by omega) M hf (by omega) (by omega) U ((S.keep O).cN ⟨A,B',y3,y2,y1,y0,rfl⟩)
  ·cases ho;go_simp;have v1:=I.blk.lt;have Z:Bx g W (W.alloc (.cells vG 3)):=(Bx.refl _ _).alloc _;subst R;exact gL (by decide) G H hx Z J (by omega) M hf (by omega) (by omega) (I.aa (aH (gQ _ _) _)) ((S.keep Z).cg ⟨W.heap.size,J,by omega,Bk.new _ _ rfl,rfl⟩)
  ·cases ho;go_simp;subst R;exact gL (by decide) G H hx (Bx.refl _ _) J (by omega) M hf (by omega) (by omega) I (S.bQ rfl)
  ·cases ho;have v7:=S.s10 (s ⟨10,.data⟩ (by simp) rfl);subst v7;go_simp;refine (pA I (by omega) (by omega) _ (by omega) (by omega)).mono ?_;rintro e W1 ⟨k,rfl,h9,y7,U,O⟩;obtain⟨j,rfl⟩:=jO h9;subst R;exact gL (by decide) G H hx O J (by omega) M hf (by omega) (by omega) U ((S.keep O).bL ⟨j,by omega,rfl⟩)
  ·cases ho;obtain⟨b,x2,x1,T,rfl⟩:=S.s9 (s ⟨9,.data⟩ (by simp) rfl);obtain⟨j,hj,rfl⟩:=S.s11 (s ⟨11,.data⟩ (by simp) rfl);have v0:((j:Int)<8):=by omega
   go_simp;subst R;exact gL (by decide) G H hx (Bx.refl _ _) J (by omega) M hf (by omega) (by omega) I (S.az ⟨b,j,x2,x1,hj,T,rfl⟩)
  ·cases ho;obtain⟨b,j,x2,x1,hj,T,rfl⟩:=S.s12 (s ⟨12,.data⟩ (by simp) rfl);obtain⟨V,hV,x4,x3⟩:=ML hj;have hc:=T.cell hV;go_simp;subst R;exact gL (by decide) G H hx (Bx.refl _ _) J (by omega) M hf (by omega) (by omega) I (S.bu ⟨V,x4,x3,rfl⟩)
  ·cases ho;obtain⟨K1,v3,v2,rfl⟩:=S.s1 (s ⟨1,.data⟩ (by simp) rfl);obtain⟨V,x4,x3,rfl⟩:=S.s6 (s ⟨6,.data⟩ (by simp) rfl);obtain⟨A,B',y3,y2,y1,y0,rfl⟩:=S.s8 (s ⟨8,.data⟩ (by simp) rfl);obtain⟨D,v5,v4,rfl⟩:=S.s13 (s ⟨13,.data⟩ (by simp) rfl);go_simp;subst R;exact gL (by decide) G H hx (Bx.refl _ _) J (by omega) M hf (by omega) (by omega) I (S.cq ⟨K1,V,A,B',D,Fo v3 v2 x4 x3 y3 y2 y1 y0 v5 v4,rfl⟩)
  ·cases ho;obtain⟨K1,V,A,B',D,x8,rfl⟩:=S.s14 (s ⟨14,.data⟩ (by simp) rfl);have Y:=M y5;obtain⟨q0,q1,q2,q3,q4⟩:=Y.ag;have f0:=Y.free 0;have f1:=Y.free 1;have f2:=Y.free 2;have f3:=Y.free 3;have f4:=Y.free 4;go_simp;subst R;have hB:=h.size;have nb:∀b,w.heap.size+1<=b->(((((W.setCell ⟨w.heap.size,0,none⟩ (.int .i64 K1)).setCell ⟨w.heap.size,1,none⟩ (.int .i64 V)).setCell ⟨w.heap.size,2,none⟩ (.int .i64 A)).setCell ⟨w.heap.size,3,none⟩ (.int .i64 B')).setCell ⟨w.heap.size,4,none⟩ (.int .i64 D)).heap[b]?=W.heap[b]?:=fun b Y=>by
    rw[gX _ _ _ _ (by simp;omega),gX _ _ _ _ (by simp;omega),gX _ _ _ _ (by simp;omega),gX _ _ _ _ (by simp;omega),gX _ _ _ _ (by simp;omega)]
   refine⟨by simp[G],⟨p',x9,by omega,((((I.apart (by simp;omega) (by simp;omega) _).apart (by simp;omega) (by simp;omega) _).apart (by simp;omega) (by simp;omega) _).apart (by simp;omega) (by simp;omega) _).apart (by simp;omega) (by simp;omega) _⟩,((((hx.aA (by simp) _).aA (by simp) _).aA (by simp) _).aA (by simp) _).aA (by simp) _,by simp[iP.setCell];exact J,_,_,_,_,_,_,_,_,_,_,_,_,_,_,_,_,rfl,S.last nb,fun e=>?_,fun _=>⟨K1,V,A,B',D,x8,Y.er _ _ _ _ _⟩⟩;simp[G]at e
theorem zM {l:List Rw}{r:Rw}(h:∀x∈l,nR x)(hr:nR r):∀x∈l++[r],nR x:=fun x hx=>by
 rcases List.mem_append.1 hx with hx|hx
 ·exact h x hx
 ·rw[List.mem_singleton.1 hx];exact hr
theorem Fp {K V A B D G s J B' H:Int}(h:nR (((K,V),(A,B)),D))(I:nR (((G,s),(J,B')),H)):nR (((G,s),(A,B)),D)/\nR (((G,s),(A,B)),-H):=by
 obtain⟨h1,h2,h3⟩:=h;obtain⟨h4,h5,h6⟩:=I;simp only[dG,bM,cG,Bool.and_eq_true,decide_eq_true_eq]at h1 h4;simp only at h2 h3 h5 h6;exact⟨Fo (by omega) (by omega) (by omega) (by omega) (by omega) (by omega) (by omega) (by omega) (by omega) (by omega),Fo (by omega) (by omega) (by omega) (by omega) (by omega) (by omega) (by omega) (by omega) (by omega) (by omega)⟩
theorem CK {t:TypeId}{k:Nat}{xs:List iM}{p:Addr}(h:w.ownsRow B t k v n xs)(s:∀b,v.ownBlock=some b->b≠p.block)(u:iM):(w.setCell p u).ownsRow B t k v n xs:=
 fB h fun b e=>gX _ _ _ _ (s b e)
theorem Gc {g:Nat}(h:Rd B w g v n p)(hp:0<=p)(r5:p<=700000)(T:Int)(r8:0<=T)(r7:T<=10):
  Calls Tryz.prog 161 #[.pointer (some ⟨g,0,none⟩),.int .i64 T] w fun e w'=>∃(o:iM)(l:List Rw),e=.returned o/\(l.length:Int)<=T/\(∀r∈l,nR r)/\aC w' w.heap.size o l/\(∃Y:Int,p<=Y/\Y<=p+600/\Rd B w' g v n Y)/\Bx g w w':=by
 have hg:=h.blk.lt;have hh:=h.here;have hs:=h.size;have h0:=h.aa (aH (gQ _ _) (.cells #[] 55));have x0:Bx g w (w.alloc (.cells #[] 55)):=(Bx.refl _ _).alloc _;have o0:=lT w rfl;go_enter Tryz.func161,Tryz.ntmps161;go_wp2_with fail;refine (pA h0 hp (by omega) _ (by omega) (by omega)).mono ?_;rintro e w1 ⟨k,rfl,l7,t2,f8,d3⟩;have o1:aC w1 w.heap.size _ []:=oX o0 d3 hg;have x1:=x0.trans d3;clear o0 x0 h0 d3;go_wp2_with fail
 go_loopw [5,6] (fun o i wr=>∃(m:Nat)(l:List Rw)(Y:Int),(m:Int)<=T/\i=.int .i64 m/\(l.length:Int)+m<=T/\(∀r∈l,nR r)/\aC wr w.heap.size o l/\p<=Y/\Y<=p+1+52*l.length/\Rd B wr g v n Y/\Bx g w wr) (fun _ i _=>(intOf i).toNat)
 case atStart=>
  obtain⟨m,rfl⟩:=jO l7;exact⟨m,[],p+1,by omega,rfl,by simp;omega,by simp,o1,by omega,by simp,f8,x1⟩
 case round=>
  clear o1 x1 f8;obtain⟨m,l,Y,hm,rfl,t1,e9,v7,l4,g0,hr,hx⟩:=hrel;have HO:Hid (aC wr w.heap.size u5 l):=v7;have HQ:Hid (Y<=p+1+52*l.length):=g0;have HS:Hid (∀r∈l,nR r):=e9;have r2:Y<=p+521:=by omega
  clear e9 g0
  by_cases t0:0<m
  ·have R0:Rs wr u5 l:=aC.rs v7 (by omega);obtain⟨a5,H,rfl,hC,l6,l5,M⟩:=Rs.open R0;unfold maxLen at l6;have HC:=(show Hid _ from M);clear M R0 v7 l5;go_wp2_with fail;refine (BJ hr (by omega) (by omega)).mono ?_;rintro e G ⟨K,V,A,O,D,rfl,e8,⟨p2,r4,r3,f7⟩,d0⟩;have v6:aC G w.heap.size (.slice a5 l.length H) l:=oX HO.out d0 hg;have x2:=hx.trans d0;have r1:=x2.size;have HB:Hid (∀b,(iM.slice a5 l.length H).ownBlock=some b->b≠G.heap.size):=fun b e=>by have:=oT v6 b e;omega
   have a1:Hid (nR (((K,V),(A,O)),D)):=e8;have d6:=f7.aa (aH (gQ _ _) (.cells #[.int .i64 K,.int .i64 V,.int .i64 A,.int .i64 O,.int .i64 D] 55));have b3:Bk (G.alloc (.cells #[.int .i64 K,.int .i64 V,.int .i64 A,.int .i64 O,.int .i64 D] 55)) G.heap.size #[.int .i64 K,.int .i64 V,.int .i64 A,.int .i64 O,.int .i64 D] 55:=Bk.new _ _ rfl;have x9:aC (G.alloc (.cells #[.int .i64 K,.int .i64 V,.int .i64 A,.int .i64 O,.int .i64 D] 55)) w.heap.size (.slice a5 l.length H) l:=v6.alloc _;have x3:=x2.alloc (.cells #[.int .i64 K,.int .i64 V,.int .i64 A,.int .i64 O,.int .i64 D] 55);have r0:G.heap.size<(G.alloc (.cells #[.int .i64 K,.int .i64 V,.int .i64 A,.int .i64 O,.int .i64 D] 55)).heap.size:=by simp
   clear e8 hr hx d0 HO v6 f7
   go_upto_region 6 with fail
   generalize (G.alloc (.cells #[.int .i64 K,.int .i64 V,.int .i64 A,.int .i64 O,.int .i64 D] 55))=w3 at*
   by_cases o5:0<l.length
   ·go_wp2_with fail;refine (pA d6 (by omega) (by omega) _ (by omega) (by omega)).mono ?_;rintro e w4 ⟨k3,rfl,p1,p0,d5,v3⟩;have h9:aC w4 w.heap.size (.slice a5 l.length H) l:=oX x9 v3 hg;have b4:=b3.aN v3 (by omega);have x4:=x3.trans v3;have q6:=v3.size;clear x9 b3 x3 d6 v3
    by_cases g2:k3=0
    ·subst g2;go_wp2_with fail;refine (pA d5 (by omega) (by omega) _ (by omega) (by omega)).mono ?_;rintro e w5 ⟨j0,rfl,l9,hA,f6,v2⟩;obtain⟨j,rfl⟩:=jO l9;have v5:aC w5 w.heap.size (.slice a5 l.length H) l:=oX h9 v2 hg;have b5:=b4.aN v2 (by omega);have x5:=x4.trans v2;have q5:=v2.size;have l8:j<l.length:=by omega
     have R5:Rs w5 (.slice a5 l.length H) l:=aC.rs v5 (by omega);obtain⟨hG,n6,ee,_,_,_,M⟩:=Rs.open R5;simp only[iM.slice.injEq,true_and]at ee;obtain⟨rfl,rfl⟩:=ee;obtain⟨g5,y5,J,I,A2,B2,R,rfl,hB,f9,c0,c1,c2,c3,c4⟩:=M j l8;have z1:=HS.out _ (List.mem_of_getElem? f9);have n5:Hid (nR (((J,I),(A,O)),D)):=(Fp a1.out z1).1;have n4:Hid (nR (((J,I),(A,O)),-R)):=(Fp a1.out z1).2;have hE: -3<=R:=z1.2.1;have hD:R<=3:=z1.2.2;have f5:=f6.aa (aH (gQ _ _) (.cells #[.int .i64 J,.int .i64 I,.int .i64 A2,.int .i64 B2,.int .i64 R] 55));have y6:Bk (w5.alloc (.cells #[.int .i64 J,.int .i64 I,.int .i64 A2,.int .i64 B2,.int .i64 R] 55)) w5.heap.size #[.int .i64 J,.int .i64 I,.int .i64 A2,.int .i64 B2,.int .i64 R] 55:=Bk.new _ _ rfl;have b6:=b5.alloc (.cells #[.int .i64 J,.int .i64 I,.int .i64 A2,.int .i64 B2,.int .i64 R] 55);have b9:aC (w5.alloc (.cells #[.int .i64 J,.int .i64 I,.int .i64 A2,.int .i64 B2,.int .i64 R] 55)) w.heap.size (.slice (some ⟨g5,y5,none⟩) l.length H) l:=v5.alloc _;have x6:=x5.alloc (.cells #[.int .i64 J,.int .i64 I,.int .i64 A2,.int .i64 B2,.int .i64 R] 55);clear M R5 h9 v5 b4 b5 x4 x5 v2 d5 f6 f9 z1
     go_upto_region 8 with fail
     clear c0 c1 c2 c3 c4;generalize (w5.alloc (.cells #[.int .i64 J,.int .i64 I,.int .i64 A2,.int .i64 B2,.int .i64 R] 55))=w6 at*;obtain⟨y0,y1,y2,y3,y4⟩:=y6.ag;obtain⟨q0,q1,q2,q3,q4⟩:=b6.ag;have f0:=b6.free 0;have b7:=b6.set 0 (.int .i64 J);have y7:=y6.apart (p:=⟨G.heap.size,0,none⟩) (by simp;omega) (.int .i64 J);have f3:=f5.apart (q:=⟨G.heap.size,0,none⟩) (by simp;omega) (by simp;omega) (.int .i64 J);have x7:=x6.aA (p:=⟨G.heap.size,0,none⟩) (by simp;omega) (.int .i64 J);have b2:aC (w6.setCell ⟨G.heap.size,0,none⟩ (.int .i64 J)) w.heap.size (.slice (some ⟨g5,y5,none⟩) l.length H) l:=CK b9 HB.out _
     go_upto_region 9 with fail
     clear y0 y1 y2 y3 y4 q0 q1 q2 q3 q4 f0 b6 y6 f5 x6 b9;generalize (w6.setCell ⟨G.heap.size,0,none⟩ (.int .i64 J))=w7 at*;obtain⟨y0,y1,y2,y3,y4⟩:=y7.ag;obtain⟨q0,q1,q2,q3,q4⟩:=Bk.ag b7;have f1:=b7.free 1;have b8:=b7.set 1 (.int .i64 I);have y8:=y7.apart (p:=⟨G.heap.size,1,none⟩) (by simp;omega) (.int .i64 I);have f2:=f3.apart (q:=⟨G.heap.size,1,none⟩) (by simp;omega) (by simp;omega) (.int .i64 I);have x8:=x7.aA (p:=⟨G.heap.size,1,none⟩) (by simp;omega) (.int .i64 I);have b1:aC (w7.setCell ⟨G.heap.size,1,none⟩ (.int .i64 I)) w.heap.size (.slice (some ⟨g5,y5,none⟩) l.length H) l:=CK b2 HB.out _
     go_upto_region 10 with fail
     clear y0 y1 y2 y3 y4 q0 q1 q2 q3 q4 f1 b7 y7 f3 x7 b2;generalize (w7.setCell ⟨G.heap.size,1,none⟩ (.int .i64 I))=w8 at*;have g3:Bk w8 G.heap.size #[.int .i64 J,.int .i64 I,.int .i64 A,.int .i64 O,.int .i64 D] 55:=b8;clear b8;go_wp2_with fail;refine (pA f2 (by omega) (by omega) _ (by omega) (by omega)).mono ?_;rintro e wa ⟨k4,rfl,o9,o8,d4,v1⟩;have Z:aC wa w.heap.size (.slice (some ⟨g5,y5,none⟩) l.length H) l:=oX b1 v1 hg;have ba:=g3.aN v1 (by omega);have ya:=y8.aN v1 (by omega);have xa:=x8.trans v1;clear b1 g3 y8 x8 f2 v1
     by_cases g1:k4=0
     ·subst g1;obtain⟨y0,y1,y2,y3,y4⟩:=ya.ag;obtain⟨q0,q1,q2,q3,q4⟩:=ba.ag;have f4:=ba.free 4;have bb:=ba.set 4 (.int .i64 (-R));have l3:=d4.apart (q:=⟨G.heap.size,4,none⟩) (by simp;omega) (by simp;omega) (.int .i64 (-R));have xb:=xa.aA (p:=⟨G.heap.size,4,none⟩) (by simp;omega) (.int .i64 (-R));have v4:aC (wa.setCell ⟨G.heap.size,4,none⟩ (.int .i64 (-R))) w.heap.size (.slice (some ⟨g5,y5,none⟩) l.length H) l:=CK Z HB.out _
      go_upto_region 12 with fail
      clear y0 y1 y2 y3 y4 q0 q1 q2 q3 q4 f4 ba ya d4 xa Z;generalize (wa.setCell ⟨G.heap.size,4,none⟩ (.int .i64 (-R)))=wb at*;have m1:Bk wb G.heap.size #[.int .i64 J,.int .i64 I,.int .i64 A,.int .i64 O,.int .i64 (-R)] 55:=bb;clear bb;obtain⟨q0,q1,q2,q3,q4⟩:=m1.ag;have d8:=xb.size
      go_wp2_with (at_builtin;refine kR _ rfl _ _ rfl w.heap.size _ l rfl (v4.alloc _) _ J I A O (-R) rfl (Bk.new _ _ rfl) (by omega) (by simp;omega) ?_;intro g9 v8 U S s d7)
      have z3:Rd B U g v n (p2+1+1+1):=(l3.aa (aH (gQ _ _) _)).grown s (fun k e=>by have:=bU v4 k e;omega);have z0:Bx g w U:=(xb.alloc _).grown s (bU v4);exact⟨⟨m-1,l++[(((J,I),(A,O)),(-R))],(p2+1+1+1),by omega,by congr 1;omega,by simp;omega,zM HS.out n4.out,S,by omega,by have:=HQ.out;simp;omega,z3,z0⟩,by simp[intOf];omega⟩
     ·have o6:(k4==0)=false:=by simpa using g1
      obtain⟨q0,q1,q2,q3,q4⟩:=ba.ag;have d8:=xa.size
      go_wp2_with (at_builtin;refine kR _ rfl _ _ rfl w.heap.size _ l rfl (Z.alloc _) _ J I A O D rfl (Bk.new _ _ rfl) (by omega) (by simp;omega) ?_;intro g9 v8 U S s d7)
      have z3:Rd B U g v n (p2+1+1+1):=(d4.aa (aH (gQ _ _) _)).grown s (fun k e=>by have:=bU Z k e;omega);have z0:Bx g w U:=(xa.alloc _).grown s (bU Z);exact⟨⟨m-1,l++[(((J,I),(A,O)),D)],(p2+1+1+1),by omega,by congr 1;omega,by simp;omega,zM HS.out n5.out,S,by omega,by have:=HQ.out;simp;omega,z3,z0⟩,by simp[intOf];omega⟩
    ·have o7:(k3==0)=false:=by simpa using g2
     obtain⟨q0,q1,q2,q3,q4⟩:=b4.ag;have d8:=x4.size
     go_wp2_with (at_builtin;refine kR _ rfl _ _ rfl w.heap.size _ l rfl (h9.alloc _) _ K V A O D rfl (Bk.new _ _ rfl) (by omega) (by simp;omega) ?_;intro g9 v8 U S s d7)
     have z3:Rd B U g v n (p2+1):=(d5.aa (aH (gQ _ _) _)).grown s (fun k e=>by have:=bU h9 k e;omega);have z0:Bx g w U:=(x4.alloc _).grown s (bU h9);exact⟨⟨m-1,l++[(((K,V),(A,O)),D)],(p2+1),by omega,by congr 1;omega,by simp;omega,zM HS.out a1.out,S,by omega,by have:=HQ.out;simp;omega,z3,z0⟩,by simp[intOf];omega⟩
   ·obtain rfl:l=[]:=List.eq_nil_of_length_eq_zero (by omega);simp only[List.length_nil]at *;obtain⟨q0,q1,q2,q3,q4⟩:=b3.ag;have d8:=x3.size
    go_wp2_with (at_builtin;refine kR _ rfl _ _ rfl w.heap.size _ [] rfl (x9.alloc _) _ K V A O D rfl (Bk.new _ _ rfl) (by simp) (by simp;omega) ?_;intro g9 v8 U S s d7)
    have z3:Rd B U g v n p2:=(d6.aa (aH (gQ _ _) _)).grown s (fun k e=>by have:=bU x9 k e;omega);have z0:Bx g w U:=(x3.alloc _).grown s (bU x9);exact⟨⟨m-1,[]++[(((K,V),(A,O)),D)],p2,by omega,by congr 1;omega,by simp;omega,zM HS.out a1.out,S,by omega,by have:=HQ.out;simp;omega,z3,z0⟩,by simp[intOf];omega⟩
  ·obtain rfl:m=0:=by omega
   have:=HQ.out;go_wp2_with fail;go_ret;exact⟨_,l,rfl,by omega,HS.out,HO.out,⟨Y,l4,by omega,hr⟩,hx⟩
section
variable {ops:Array jB}{o:jB}{a:Act}{Kk:Act->iP->Prop}{Q:Exit->Act->iP->Prop}{E:Prop}
theorem rH (w:iP)(Z:o.guard=none)(s x:Operand)(ho:o.op=.call { callee:= .builtin .append,args:=#[s,x],argTypes:=#[28,28] })
  (A:Nat) (v:iM) (l:List Rw) (hs:a.eval s=v) (D:aC w A v l) (T:iM) (m:List Rw) (hx:a.eval x=T) (hR:Rs w T m) (hl:l.length+m.length<=2000000) (J:A<=w.heap.size)
  (h:∀v' G,aC G A v' (l++m)->w.grownBy G v.ownBlock->Kk (a.put o.dst v') G):
  if nA o (yielded ops a.tmps)=true then jB.wp Tryz.prog o a w Kk Q else E:=by
 have hw:nA o (yielded ops a.tmps)=true:=by simp[nA,Z]
 rw[if_pos hw];obtain⟨i0,hi,Y,V,U⟩:=info_parts rU;obtain⟨ad,M,rfl,O⟩:=Fi hR
 by_cases H:m=[]
 ·subst H;have R:=AR D ad M o.type;unfold jB.wp;simp[execOp,ho,resolve,invoke,builtin,hs,hx,R,Result.andThen];exact h v w (by simpa using D) ⟨rfl,rfl,rfl,Nat.le_refl _,fun _ _ _=>rfl⟩
 ·obtain⟨g,off,rfl,I⟩:=O H;have S:0<m.length:=List.length_pos_iff.2 H;refine wp_append_lies w s x 28 ho A 55 i0 _ 5 40 Tryz.underlying28 hi Y V U rfl (by decide) v l.length (l.flatMap iE) hs D ⟨g,off,none⟩ m.length M (m.flatMap iE) hx (lH jP m) I (FO m) S (by unfold maxLen;omega) (by omega) J w.heap.size rfl ?_;intro g' x1 G h1 h2 _ _;refine h _ G ?_ h2
  show G.ownsRow _ _ _ _ _ _
  rw[List.flatMap_append,List.length_append];exact h1
end
end Go.Proofs.YtbdpcngcbnoioaaGreatDoor
