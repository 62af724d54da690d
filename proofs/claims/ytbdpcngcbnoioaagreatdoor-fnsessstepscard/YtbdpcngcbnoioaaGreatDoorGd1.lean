import Derived.Test.YtbdpcngcbnoioaaGreatDoorGs7
set_option maxRecDepth 100000
set_option maxHeartbeats 16000000
namespace Go.Proofs.YtbdpcngcbnoioaaGreatDoor
open Go.RowKit
open Go.RowKit.Below renaming refl->fD,drew->fH,heap_setCell->fV
open Go.RowKit renaming Below->gY
open _root_.Array renaming getElem?_eq_getElem->gZ,getD_eq_getD_getElem?->iC,getElem?_eq_some_iff->jU,getElem?_setIfInBounds->kR
open Go.Value renaming ownBlock->kX,slice->lI
open Go renaming Value->lY,World->mF,Oper->mJ
open _root_.Int renaming eq_ofNat_of_zero_le->nU
open Go.Region renaming wanted->oJ,ready->oO
variable {A D K V p:Int}{B g i j n:Nat}{L:Array Bool}{u v:lY}{w:mF}
section
def lN (r:Rw):Prop:=cU r=true /\ -3<=r.2/\r.2<=3
theorem DU {B:Int}(h1:0<=K)(h2:K<=3)(h3:0<=V)(h4:V<=99)(h5:0<=A)(h6:A<=7)(h7:0<=B)(h8:B<=7)(F: -3<=D)(s:D<=3):lN (((K,V),(A,B)),D):=by
 refine⟨?_,F,s⟩;simp only[cU,bH,cH];simp;omega
abbrev yI:Array lY:=#[.int .i64 0,.int .i64 1,.int .i64 2,.int .i64 3,.int .i64 4,.int .i64 9,.int .i64 10,.int .i64 57,.int .i64 99]
abbrev uH:Array lY:=#[.int .i64 1,.int .i64 1,.int .i64 1,.int .i64 2,.int .i64 (-1),.int .i64 (-1),.int .i64 3,.int .i64 0]
theorem Lq (h:j<9):∃V:Int,yI[j]?=some (.int .i64 V)/\0<=V/\V<=99:=by
 obtain rfl|rfl|rfl|rfl|rfl|rfl|rfl|rfl|rfl:j=0\/j=1\/j=2\/j=3\/j=4\/j=5\/j=6\/j=7\/j=8:=by omega
 all_goals exact⟨_,rfl,by omega,by omega⟩
theorem K6 (h:j<8):∃V:Int,uH[j]?=some (.int .i64 V) /\ -3<=V/\V<=3:=by
 obtain rfl|rfl|rfl|rfl|rfl|rfl|rfl|rfl:j=0\/j=1\/j=2\/j=3\/j=4\/j=5\/j=6\/j=7:=by omega
 all_goals exact⟨_,rfl,by omega,by omega⟩
structure dB (g N:Nat)(L:Array Bool)(W:mF)(t3 t4 t5 t6 t7 t8 t9 t10 t11 t12 t13 t14 t15 t16 t17:lY):Prop where
 s0:L.getD 0 false=true->t3=.pointer (some ⟨g,0,none⟩)
 s1:L.getD 1 false=true->∃K:Int,0<=K/\K<=3/\t4=.int .i64 K
 s2:L.getD 2 false=true->∃b:Nat,N<=b/\b≠g/\Bk W b yI 3/\t5=.slice (some ⟨b,0,none⟩) 9 9
 s3:L.getD 3 false=true->t6=.pointer (some ⟨g,0,none⟩)
 s4:L.getD 4 false=true->∃j:Nat,j<9/\t7=.int .i64 j
 s5:L.getD 5 false=true->∃b j:Nat,N<=b/\b≠g/\j<9/\Bk W b yI 3/\t8=.pointer (some ⟨b,j,none⟩)
 s6:L.getD 6 false=true->∃V:Int,0<=V/\V<=99/\t9=.int .i64 V
 s7:L.getD 7 false=true->t10=.pointer (some ⟨g,0,none⟩)
 s8:L.getD 8 false=true->∃A B:Int,0<=A/\A<=7/\0<=B/\B<=7/\t11=tv A B
 s9:L.getD 9 false=true->∃b:Nat,N<=b/\b≠g/\Bk W b uH 3/\t12=.slice (some ⟨b,0,none⟩) 8 8
 s10:L.getD 10 false=true->t13=.pointer (some ⟨g,0,none⟩)
 s11:L.getD 11 false=true->∃j:Nat,j<8/\t14=.int .i64 j
 s12:L.getD 12 false=true->∃b j:Nat,N<=b/\b≠g/\j<8/\Bk W b uH 3/\t15=.pointer (some ⟨b,j,none⟩)
 s13:L.getD 13 false=true->∃D:Int,-3<=D/\D<=3/\t16=.int .i64 D
 s14:L.getD 14 false=true->∃K V A B D:Int,lN (((K,V),(A,B)),D)/\t17=rv K V A B D
variable {g N:Nat}{L:Array Bool}{W W':mF}{t3 t4 t5 t6 t7 t8 t9 t10 t11 t12 t13 t14 t15 t16 t17:lY}
theorem dB.keep (h:dB g N L W t3 t4 t5 t6 t7 t8 t9 t10 t11 t12 t13 t14 t15 t16 t17)(hx:Bx g W W'):dB g N L W' t3 t4 t5 t6 t7 t8 t9 t10 t11 t12 t13 t14 t15 t16 t17 where
 s0:=h.s0
 s1:=h.s1
 s2:=fun e=>by obtain⟨b,h1,h2,h3,h4⟩:=h.s2 e;exact⟨b,h1,h2,h3.aN hx h2,h4⟩
 s3:=h.s3
 s4:=h.s4
 s5:=fun e=>by obtain⟨b,j,h1,h2,h3,h4,h5⟩:=h.s5 e;exact⟨b,j,h1,h2,h3,h4.aN hx h2,h5⟩
 s6:=h.s6
 s7:=h.s7
 s8:=h.s8
 s9:=fun e=>by obtain⟨b,h1,h2,h3,h4⟩:=h.s9 e;exact⟨b,h1,h2,h3.aN hx h2,h4⟩
 s10:=h.s10
 s11:=h.s11
 s12:=fun e=>by obtain⟨b,j,h1,h2,h3,h4,h5⟩:=h.s12 e;exact⟨b,j,h1,h2,h3,h4.aN hx h2,h5⟩
 s13:=h.s13
 s14:=h.s14
theorem DF (h:i≠j)(e:(L.setIfInBounds i true).getD j false=true):L.getD j false=true:=by
 simp only[iC,kR]at e ⊢;rw[if_neg h]at e;exact e
theorem gS (e:(L.setIfInBounds i true).getD j false=true)(h:i≠j:=by decide):L.getD j false=true:=DF h e
theorem dB.be (h:dB g N L W t3 t4 t5 t6 t7 t8 t9 t10 t11 t12 t13 t14 t15 t16 t17)(s:u=.pointer (some ⟨g,0,none⟩)):dB g N (L.setIfInBounds 0 true) W u t4 t5 t6 t7 t8 t9 t10 t11 t12 t13 t14 t15 t16 t17 where
 s0:=fun _=>s
 s1:=fun e=>h.s1 (gS e)
 s2:=fun e=>h.s2 (gS e)
 s3:=fun e=>h.s3 (gS e)
 s4:=fun e=>h.s4 (gS e)
 s5:=fun e=>h.s5 (gS e)
 s6:=fun e=>h.s6 (gS e)
 s7:=fun e=>h.s7 (gS e)
 s8:=fun e=>h.s8 (gS e)
 s9:=fun e=>h.s9 (gS e)
 s10:=fun e=>h.s10 (gS e)
 s11:=fun e=>h.s11 (gS e)
 s12:=fun e=>h.s12 (gS e)
 s13:=fun e=>h.s13 (gS e)
 s14:=fun e=>h.s14 (gS e)
theorem dB.bG (h:dB g N L W t3 t4 t5 t6 t7 t8 t9 t10 t11 t12 t13 t14 t15 t16 t17)(s:∃K:Int,0<=K/\K<=3/\u=.int .i64 K):dB g N (L.setIfInBounds 1 true) W t3 u t5 t6 t7 t8 t9 t10 t11 t12 t13 t14 t15 t16 t17 where
 s0:=fun e=>h.s0 (gS e)
 s1:=fun _=>s
 s2:=fun e=>h.s2 (gS e)
 s3:=fun e=>h.s3 (gS e)
 s4:=fun e=>h.s4 (gS e)
 s5:=fun e=>h.s5 (gS e)
 s6:=fun e=>h.s6 (gS e)
 s7:=fun e=>h.s7 (gS e)
 s8:=fun e=>h.s8 (gS e)
 s9:=fun e=>h.s9 (gS e)
 s10:=fun e=>h.s10 (gS e)
 s11:=fun e=>h.s11 (gS e)
 s12:=fun e=>h.s12 (gS e)
 s13:=fun e=>h.s13 (gS e)
 s14:=fun e=>h.s14 (gS e)
theorem dB.au (h:dB g N L W t3 t4 t5 t6 t7 t8 t9 t10 t11 t12 t13 t14 t15 t16 t17)(s:∃b:Nat,N<=b/\b≠g/\Bk W b yI 3/\u=.slice (some ⟨b,0,none⟩) 9 9):dB g N (L.setIfInBounds 2 true) W t3 t4 u t6 t7 t8 t9 t10 t11 t12 t13 t14 t15 t16 t17 where
 s0:=fun e=>h.s0 (gS e)
 s1:=fun e=>h.s1 (gS e)
 s2:=fun _=>s
 s3:=fun e=>h.s3 (gS e)
 s4:=fun e=>h.s4 (gS e)
 s5:=fun e=>h.s5 (gS e)
 s6:=fun e=>h.s6 (gS e)
 s7:=fun e=>h.s7 (gS e)
 s8:=fun e=>h.s8 (gS e)
 s9:=fun e=>h.s9 (gS e)
 s10:=fun e=>h.s10 (gS e)
 s11:=fun e=>h.s11 (gS e)
 s12:=fun e=>h.s12 (gS e)
 s13:=fun e=>h.s13 (gS e)
 s14:=fun e=>h.s14 (gS e)
theorem dB.ar (h:dB g N L W t3 t4 t5 t6 t7 t8 t9 t10 t11 t12 t13 t14 t15 t16 t17)(s:u=.pointer (some ⟨g,0,none⟩)):dB g N (L.setIfInBounds 3 true) W t3 t4 t5 u t7 t8 t9 t10 t11 t12 t13 t14 t15 t16 t17 where
 s0:=fun e=>h.s0 (gS e)
 s1:=fun e=>h.s1 (gS e)
 s2:=fun e=>h.s2 (gS e)
 s3:=fun _=>s
 s4:=fun e=>h.s4 (gS e)
 s5:=fun e=>h.s5 (gS e)
 s6:=fun e=>h.s6 (gS e)
 s7:=fun e=>h.s7 (gS e)
 s8:=fun e=>h.s8 (gS e)
 s9:=fun e=>h.s9 (gS e)
 s10:=fun e=>h.s10 (gS e)
 s11:=fun e=>h.s11 (gS e)
 s12:=fun e=>h.s12 (gS e)
 s13:=fun e=>h.s13 (gS e)
 s14:=fun e=>h.s14 (gS e)
theorem dB.aq (h:dB g N L W t3 t4 t5 t6 t7 t8 t9 t10 t11 t12 t13 t14 t15 t16 t17)(s:∃j:Nat,j<9/\u=.int .i64 j):dB g N (L.setIfInBounds 4 true) W t3 t4 t5 t6 u t8 t9 t10 t11 t12 t13 t14 t15 t16 t17 where
 s0:=fun e=>h.s0 (gS e)
 s1:=fun e=>h.s1 (gS e)
 s2:=fun e=>h.s2 (gS e)
 s3:=fun e=>h.s3 (gS e)
 s4:=fun _=>s
 s5:=fun e=>h.s5 (gS e)
 s6:=fun e=>h.s6 (gS e)
 s7:=fun e=>h.s7 (gS e)
 s8:=fun e=>h.s8 (gS e)
 s9:=fun e=>h.s9 (gS e)
 s10:=fun e=>h.s10 (gS e)
 s11:=fun e=>h.s11 (gS e)
 s12:=fun e=>h.s12 (gS e)
 s13:=fun e=>h.s13 (gS e)
 s14:=fun e=>h.s14 (gS e)
theorem dB.ai (h:dB g N L W t3 t4 t5 t6 t7 t8 t9 t10 t11 t12 t13 t14 t15 t16 t17)(s:∃b j:Nat,N<=b/\b≠g/\j<9/\Bk W b yI 3/\u=.pointer (some ⟨b,j,none⟩)):dB g N (L.setIfInBounds 5 true) W t3 t4 t5 t6 t7 u t9 t10 t11 t12 t13 t14 t15 t16 t17 where
 s0:=fun e=>h.s0 (gS e)
 s1:=fun e=>h.s1 (gS e)
 s2:=fun e=>h.s2 (gS e)
 s3:=fun e=>h.s3 (gS e)
 s4:=fun e=>h.s4 (gS e)
 s5:=fun _=>s
 s6:=fun e=>h.s6 (gS e)
 s7:=fun e=>h.s7 (gS e)
 s8:=fun e=>h.s8 (gS e)
 s9:=fun e=>h.s9 (gS e)
 s10:=fun e=>h.s10 (gS e)
 s11:=fun e=>h.s11 (gS e)
 s12:=fun e=>h.s12 (gS e)
 s13:=fun e=>h.s13 (gS e)
 s14:=fun e=>h.s14 (gS e)
theorem dB.bm (h:dB g N L W t3 t4 t5 t6 t7 t8 t9 t10 t11 t12 t13 t14 t15 t16 t17)(s:∃V:Int,0<=V/\V<=99/\u=.int .i64 V):dB g N (L.setIfInBounds 6 true) W t3 t4 t5 t6 t7 t8 u t10 t11 t12 t13 t14 t15 t16 t17 where
 s0:=fun e=>h.s0 (gS e)
 s1:=fun e=>h.s1 (gS e)
 s2:=fun e=>h.s2 (gS e)
 s3:=fun e=>h.s3 (gS e)
 s4:=fun e=>h.s4 (gS e)
 s5:=fun e=>h.s5 (gS e)
 s6:=fun _=>s
 s7:=fun e=>h.s7 (gS e)
 s8:=fun e=>h.s8 (gS e)
 s9:=fun e=>h.s9 (gS e)
 s10:=fun e=>h.s10 (gS e)
 s11:=fun e=>h.s11 (gS e)
 s12:=fun e=>h.s12 (gS e)
 s13:=fun e=>h.s13 (gS e)
 s14:=fun e=>h.s14 (gS e)
theorem dB.bl (h:dB g N L W t3 t4 t5 t6 t7 t8 t9 t10 t11 t12 t13 t14 t15 t16 t17)(s:u=.pointer (some ⟨g,0,none⟩)):dB g N (L.setIfInBounds 7 true) W t3 t4 t5 t6 t7 t8 t9 u t11 t12 t13 t14 t15 t16 t17 where
 s0:=fun e=>h.s0 (gS e)
 s1:=fun e=>h.s1 (gS e)
 s2:=fun e=>h.s2 (gS e)
 s3:=fun e=>h.s3 (gS e)
 s4:=fun e=>h.s4 (gS e)
 s5:=fun e=>h.s5 (gS e)
 s6:=fun e=>h.s6 (gS e)
 s7:=fun _=>s
 s8:=fun e=>h.s8 (gS e)
 s9:=fun e=>h.s9 (gS e)
 s10:=fun e=>h.s10 (gS e)
 s11:=fun e=>h.s11 (gS e)
 s12:=fun e=>h.s12 (gS e)
 s13:=fun e=>h.s13 (gS e)
 s14:=fun e=>h.s14 (gS e)
theorem dB.bj (h:dB g N L W t3 t4 t5 t6 t7 t8 t9 t10 t11 t12 t13 t14 t15 t16 t17)(s:∃A B:Int,0<=A/\A<=7/\0<=B/\B<=7/\u=tv A B):dB g N (L.setIfInBounds 8 true) W t3 t4 t5 t6 t7 t8 t9 t10 u t12 t13 t14 t15 t16 t17 where
 s0:=fun e=>h.s0 (gS e)
 s1:=fun e=>h.s1 (gS e)
 s2:=fun e=>h.s2 (gS e)
 s3:=fun e=>h.s3 (gS e)
 s4:=fun e=>h.s4 (gS e)
 s5:=fun e=>h.s5 (gS e)
 s6:=fun e=>h.s6 (gS e)
 s7:=fun e=>h.s7 (gS e)
 s8:=fun _=>s
 s9:=fun e=>h.s9 (gS e)
 s10:=fun e=>h.s10 (gS e)
 s11:=fun e=>h.s11 (gS e)
 s12:=fun e=>h.s12 (gS e)
 s13:=fun e=>h.s13 (gS e)
 s14:=fun e=>h.s14 (gS e)
theorem dB.cE (h:dB g N L W t3 t4 t5 t6 t7 t8 t9 t10 t11 t12 t13 t14 t15 t16 t17)(s:∃b:Nat,N<=b/\b≠g/\Bk W b uH 3/\u=.slice (some ⟨b,0,none⟩) 8 8):dB g N (L.setIfInBounds 9 true) W t3 t4 t5 t6 t7 t8 t9 t10 t11 u t13 t14 t15 t16 t17 where
 s0:=fun e=>h.s0 (gS e)
 s1:=fun e=>h.s1 (gS e)
 s2:=fun e=>h.s2 (gS e)
 s3:=fun e=>h.s3 (gS e)
 s4:=fun e=>h.s4 (gS e)
 s5:=fun e=>h.s5 (gS e)
 s6:=fun e=>h.s6 (gS e)
 s7:=fun e=>h.s7 (gS e)
 s8:=fun e=>h.s8 (gS e)
 s9:=fun _=>s
 s10:=fun e=>h.s10 (gS e)
 s11:=fun e=>h.s11 (gS e)
 s12:=fun e=>h.s12 (gS e)
 s13:=fun e=>h.s13 (gS e)
 s14:=fun e=>h.s14 (gS e)
theorem dB.bC (h:dB g N L W t3 t4 t5 t6 t7 t8 t9 t10 t11 t12 t13 t14 t15 t16 t17)(s:u=.pointer (some ⟨g,0,none⟩)):dB g N (L.setIfInBounds 10 true) W t3 t4 t5 t6 t7 t8 t9 t10 t11 t12 u t14 t15 t16 t17 where
 s0:=fun e=>h.s0 (gS e)
 s1:=fun e=>h.s1 (gS e)
 s2:=fun e=>h.s2 (gS e)
 s3:=fun e=>h.s3 (gS e)
 s4:=fun e=>h.s4 (gS e)
 s5:=fun e=>h.s5 (gS e)
 s6:=fun e=>h.s6 (gS e)
 s7:=fun e=>h.s7 (gS e)
 s8:=fun e=>h.s8 (gS e)
 s9:=fun e=>h.s9 (gS e)
 s10:=fun _=>s
 s11:=fun e=>h.s11 (gS e)
 s12:=fun e=>h.s12 (gS e)
 s13:=fun e=>h.s13 (gS e)
 s14:=fun e=>h.s14 (gS e)
theorem dB.az (h:dB g N L W t3 t4 t5 t6 t7 t8 t9 t10 t11 t12 t13 t14 t15 t16 t17)(s:∃j:Nat,j<8/\u=.int .i64 j):dB g N (L.setIfInBounds 11 true) W t3 t4 t5 t6 t7 t8 t9 t10 t11 t12 t13 u t15 t16 t17 where
 s0:=fun e=>h.s0 (gS e)
 s1:=fun e=>h.s1 (gS e)
 s2:=fun e=>h.s2 (gS e)
 s3:=fun e=>h.s3 (gS e)
 s4:=fun e=>h.s4 (gS e)
 s5:=fun e=>h.s5 (gS e)
 s6:=fun e=>h.s6 (gS e)
 s7:=fun e=>h.s7 (gS e)
 s8:=fun e=>h.s8 (gS e)
 s9:=fun e=>h.s9 (gS e)
 s10:=fun e=>h.s10 (gS e)
 s11:=fun _=>s
 s12:=fun e=>h.s12 (gS e)
 s13:=fun e=>h.s13 (gS e)
 s14:=fun e=>h.s14 (gS e)
theorem dB.aw (h:dB g N L W t3 t4 t5 t6 t7 t8 t9 t10 t11 t12 t13 t14 t15 t16 t17)(s:∃b j:Nat,N<=b/\b≠g/\j<8/\Bk W b uH 3/\u=.pointer (some ⟨b,j,none⟩)):dB g N (L.setIfInBounds 12 true) W t3 t4 t5 t6 t7 t8 t9 t10 t11 t12 t13 t14 u t16 t17 where
 s0:=fun e=>h.s0 (gS e)
 s1:=fun e=>h.s1 (gS e)
 s2:=fun e=>h.s2 (gS e)
 s3:=fun e=>h.s3 (gS e)
 s4:=fun e=>h.s4 (gS e)
 s5:=fun e=>h.s5 (gS e)
 s6:=fun e=>h.s6 (gS e)
 s7:=fun e=>h.s7 (gS e)
 s8:=fun e=>h.s8 (gS e)
 s9:=fun e=>h.s9 (gS e)
 s10:=fun e=>h.s10 (gS e)
 s11:=fun e=>h.s11 (gS e)
 s12:=fun _=>s
 s13:=fun e=>h.s13 (gS e)
 s14:=fun e=>h.s14 (gS e)
theorem dB.bu (h:dB g N L W t3 t4 t5 t6 t7 t8 t9 t10 t11 t12 t13 t14 t15 t16 t17)(s:∃D:Int,-3<=D/\D<=3/\u=.int .i64 D):dB g N (L.setIfInBounds 13 true) W t3 t4 t5 t6 t7 t8 t9 t10 t11 t12 t13 t14 t15 u t17 where
 s0:=fun e=>h.s0 (gS e)
 s1:=fun e=>h.s1 (gS e)
 s2:=fun e=>h.s2 (gS e)
 s3:=fun e=>h.s3 (gS e)
 s4:=fun e=>h.s4 (gS e)
 s5:=fun e=>h.s5 (gS e)
 s6:=fun e=>h.s6 (gS e)
 s7:=fun e=>h.s7 (gS e)
 s8:=fun e=>h.s8 (gS e)
 s9:=fun e=>h.s9 (gS e)
 s10:=fun e=>h.s10 (gS e)
 s11:=fun e=>h.s11 (gS e)
 s12:=fun e=>h.s12 (gS e)
 s13:=fun _=>s
 s14:=fun e=>h.s14 (gS e)
theorem dB.cG (h:dB g N L W t3 t4 t5 t6 t7 t8 t9 t10 t11 t12 t13 t14 t15 t16 t17)(s:∃K V A B D:Int,lN (((K,V),(A,B)),D)/\u=rv K V A B D):dB g N (L.setIfInBounds 14 true) W t3 t4 t5 t6 t7 t8 t9 t10 t11 t12 t13 t14 t15 t16 u where
 s0:=fun e=>h.s0 (gS e)
 s1:=fun e=>h.s1 (gS e)
 s2:=fun e=>h.s2 (gS e)
 s3:=fun e=>h.s3 (gS e)
 s4:=fun e=>h.s4 (gS e)
 s5:=fun e=>h.s5 (gS e)
 s6:=fun e=>h.s6 (gS e)
 s7:=fun e=>h.s7 (gS e)
 s8:=fun e=>h.s8 (gS e)
 s9:=fun e=>h.s9 (gS e)
 s10:=fun e=>h.s10 (gS e)
 s11:=fun e=>h.s11 (gS e)
 s12:=fun e=>h.s12 (gS e)
 s13:=fun e=>h.s13 (gS e)
 s14:=fun _=>s
end
open Go.RowKit
abbrev yL:Array lY:=#[.int .i64 0,.int .i64 0,.int .i64 0,.int .i64 0,.int .i64 0]
def KW (g N res B n:Nat)(v:lY)(p:Int)(w0:mF)(L:Array Bool)(a:Act)(W:mF):Prop:=
 L.size=16/\(∃p':Int,p<=p'/\p'+3*(sP L:Int)<=p+48/\Rd B W g v n p')/\Bx g w0 W/\N<=W.heap.size/\∃t1 t3 t4 t5 t6 t7 t8 t9 t10 t11 t12 t13 t14 t15 t16 t17:lY,
  a={ tmps:=#[.pointer (some ⟨g,0,none⟩),t1,.pointer (some ⟨res,0,none⟩),t3,t4,t5,t6,t7,t8,t9,t10,t11,t12,t13,t14,t15,t16,t17],defers:=[] } /\
  dB g N L W t3 t4 t5 t6 t7 t8 t9 t10 t11 t12 t13 t14 t15 t16 t17/\(L.getD 15 true=false->Bk W res yL 55)/\(L.getD 15 false=true->∃K V A B' D:Int,lN (((K,V),(A,B')),D)/\Bk W res #[.int .i64 K,.int .i64 V,.int .i64 A,.int .i64 B',.int .i64 D] 55)
theorem NN (hs:L.size=16)(hi:i<16)(h:L.getD i true=false):sP (L.setIfInBounds i true)+1=sP L:=yQ (by
 rw[gZ (by omega)];simp[hs,hi]at h;rw[h])
theorem Gv {ops:Array mJ}(hs:L.size=ops.size)(hl:∀(i:Nat)(o:mJ),ops[i]?=some o->∀e∈o.after,e.on<i)(hr:oO .any ops L=[]):∀j,j<ops.size->L.getD j false=true:=by
 intro j
 induction j using Nat.strongRecOn with
 | _ j ih=>
  intro s;cases e:L.getD j false
  ·exfalso
   have hm:j∈oO .any ops L:=mem_ready.2 ⟨by
    simp only[iC,gZ (show j<L.size by omega)]at e ⊢;exact e,ops[j],gZ s,fun x hx _=>ih x.on (hl j _ (gZ s) x hx) (by have:=hl j _ (gZ s) x hx;omega)⟩
   rw[hr]at hm;cases hm
  ·rfl
theorem dB.last {N:Nat}{W W':mF}{t3 t4 t5 t6 t7 t8 t9 t10 t11 t12 t13 t14 t15 t16 t17:lY}(h:dB g N L W t3 t4 t5 t6 t7 t8 t9 t10 t11 t12 t13 t14 t15 t16 t17)(s:∀b,N<=b->W'.heap[b]?=W.heap[b]?):dB g N (L.setIfInBounds 15 true) W' t3 t4 t5 t6 t7 t8 t9 t10 t11 t12 t13 t14 t15 t16 t17 where
 s0:=fun e=>h.s0 (gS e)
 s1:=fun e=>h.s1 (gS e)
 s2:=fun e=>by obtain⟨b,h1,h2,h3,h4⟩:=h.s2 (gS e);exact⟨b,h1,h2,by unfold Bk;rw[s b h1];exact h3,h4⟩
 s3:=fun e=>h.s3 (gS e)
 s4:=fun e=>h.s4 (gS e)
 s5:=fun e=>by obtain⟨b,j,h1,h2,h3,h4,h5⟩:=h.s5 (gS e);exact⟨b,j,h1,h2,h3,by unfold Bk;rw[s b h1];exact h4,h5⟩
 s6:=fun e=>h.s6 (gS e)
 s7:=fun e=>h.s7 (gS e)
 s8:=fun e=>h.s8 (gS e)
 s9:=fun e=>by obtain⟨b,h1,h2,h3,h4⟩:=h.s9 (gS e);exact⟨b,h1,h2,by unfold Bk;rw[s b h1];exact h3,h4⟩
 s10:=fun e=>h.s10 (gS e)
 s11:=fun e=>h.s11 (gS e)
 s12:=fun e=>by obtain⟨b,j,h1,h2,h3,h4,h5⟩:=h.s12 (gS e);exact⟨b,j,h1,h2,h3,by unfold Bk;rw[s b h1];exact h4,h5⟩
 s13:=fun e=>h.s13 (gS e)
 s14:=fun e=>h.s14 (gS e)
theorem CB (h:i≠j)(e:(L.setIfInBounds i true).getD j true=false):L.getD j true=false:=by
 simp only[iC,kR]at e ⊢;rw[if_neg h]at e;exact e
theorem gT (e:(L.setIfInBounds i true).getD j true=false)(h:i≠j:=by decide):L.getD j true=false:=CB h e
theorem fK {N s:Nat}{H:Int}{w0 W W':mF}{M t3 t4 t5 t6 t7 t8 t9 t10 t11 t12 t13 t14 t15 t16 t17:lY}(hi:i≠15)(J:L.size=16)(Y:sP (L.setIfInBounds i true)+1=sP L)(hx:Bx g w0 W)(F:Bx g W W')(T:N<=W.heap.size)(G:s≠g)
  (O:L.getD 15 true=false->Bk W s yL 55) (hf:L.getD 15 false=true->∃K V A B' D:Int,lN (((K,V),(A,B')),D)/\Bk W s #[.int .i64 K,.int .i64 V,.int .i64 A,.int .i64 B',.int .i64 D] 55)
  (I:p<=H) (U:H+3*(sP L:Int)<=p+51) (R:Rd B W' g v n H) (S:dB g N (L.setIfInBounds i true) W' t3 t4 t5 t6 t7 t8 t9 t10 t11 t12 t13 t14 t15 t16 t17):
  KW g N s B n v p w0 (L.setIfInBounds i true) { tmps:=#[.pointer (some ⟨g,0,none⟩),M,.pointer (some ⟨s,0,none⟩),t3,t4,t5,t6,t7,t8,t9,t10,t11,t12,t13,t14,t15,t16,t17],defers:=[] } W':=
 ⟨by simp[J],⟨H,I,by omega,R⟩,hx.trans F,Nat.le_trans T F.size,_,_,_,_,_,_,_,_,_,_,_,_,_,_,_,_,rfl,S,fun e=>(O (CB hi e)).aN F G,fun e=>by
  obtain⟨K,V,A,B',D,h1,h2⟩:=hf (DF hi e);exact⟨K,V,A,B',D,h1,h2.aN F G⟩⟩
theorem uX (h:Rd B w g v n p)(hp:0<=p)(w3:p<=800000):
  Calls Tryz.prog 128 #[.pointer (some ⟨g,0,none⟩)] w fun e w'=>∃K V A B' D:Int,e=.returned (rv K V A B' D)/\lN (((K,V),(A,B')),D)/\(∃p':Int,p<=p'/\p'<=p+48/\Rd B w' g v n p')/\Bx g w w':=by
 have hg:=h.blk.lt;have h0:=h.aX (aG (fD _ _) (.cells yL 55));have br:Bk (w.alloc (.cells yL 55)) w.heap.size yL 55:=Bk.new _ _ rfl;have x0:Bx g w (w.alloc (.cells yL 55)):=(Bx.refl _ _).alloc _;go_enter Tryz.func128,Tryz.ntmps128;go_wp2_with fail;refine j9 (by kernel_rfl) (KW g (w.heap.size+1) w.heap.size B n v p w) ?hg ?hs ?h0 ?hstep ?hend
 case hg=>
  intro i o ho;have hi:i<16:=(jU.1 ho).1;obtain rfl|rfl|rfl|rfl|rfl|rfl|rfl|rfl|rfl|rfl|rfl|rfl|rfl|rfl|rfl|rfl:i=0\/i=1\/i=2\/i=3\/i=4\/i=5\/i=6\/i=7\/i=8\/i=9\/i=10\/i=11\/i=12\/i=13\/i=14\/i=15:=by omega
  all_goals cases ho;rfl
 case hs=>intro L a W hI;exact hI.1
 case h0=>
  refine⟨by simp,⟨p,by omega,?_,h0.aX (fD _ _).drew⟩,x0.drew,by simp,_,_,_,_,_,_,_,_,_,_,_,_,_,_,_,_,rfl,?_,fun _=>br,fun e=>?_⟩
  ·rw[BQ];show p+3*(16:Int)<=_;omega
  ·constructor<;>(intro e;simp at e)
  ·simp at e
 case hend=>
  rintro L a W ⟨F,⟨p',x8,z5,H⟩,hx,I,t1,t3,t4,t5,t6,t7,t8,t9,t10,t11,t12,t13,t14,t15,t16,t17,rfl,S,J,hf⟩ hr;have u8:L.getD 15 false=true:=by
   refine Gv (by simpa using F) ?_ hr 15 (by decide);intro i o ho;have hi:i<16:=(jU.1 ho).1;obtain rfl|rfl|rfl|rfl|rfl|rfl|rfl|rfl|rfl|rfl|rfl|rfl|rfl|rfl|rfl|rfl:i=0\/i=1\/i=2\/i=3\/i=4\/i=5\/i=6\/i=7\/i=8\/i=9\/i=10\/i=11\/i=12\/i=13\/i=14\/i=15:=by omega
   all_goals cases ho
   all_goals simp
  obtain⟨K1,V,A,B',D,x7,U⟩:=hf u8;obtain⟨q0,q1,q2,q3,q4⟩:=U.aa;clear J hf S;go_wp2_with fail;refine bodyPost_ret (v:=rv K1 V A B' D) (by simp[results,Tryz.results128,go_sem,q0,q1,q2,q3,q4]) rfl ?_;exact⟨K1,V,A,B',D,rfl,x7,⟨p',x8,by omega,H⟩,hx⟩
 case hstep=>
  rintro L a W i o ⟨F,⟨p',x8,z5,H⟩,hx,I,t1,t3,t4,t5,t6,t7,t8,t9,t10,t11,t12,t13,t14,t15,t16,t17,rfl,S,J,hf⟩ hi ho;obtain⟨y4,o',y5,s⟩:=mem_ready.1 hi;rw[ho]at y5;cases y5;have y7:i<16:=(jU.1 ho).1;have G:=NN F y7 y4;clear hi;generalize O:(fun a' w'=>KW g (w.heap.size+1) w.heap.size B n v p w (L.setIfInBounds i true) a' w')=K;obtain rfl|rfl|rfl|rfl|rfl|rfl|rfl|rfl|rfl|rfl|rfl|rfl|rfl|rfl|rfl|rfl:i=0\/i=1\/i=2\/i=3\/i=4\/i=5\/i=6\/i=7\/i=8\/i=9\/i=10\/i=11\/i=12\/i=13\/i=14\/i=15:=by omega
  ·cases ho;go_simp;subst O;exact fK (by decide) F G hx (Bx.refl _ _) I (by omega) J hf (by omega) (by omega) H (S.be rfl)
  ·cases ho;have e0:=S.s0 (s ⟨0,.data⟩ (by simp) rfl);subst e0;go_simp;refine (pA H (by omega) (by omega) _ (by omega) (by omega)).mono ?_;rintro e W1 ⟨k,rfl,Z,y6,T,M⟩;subst O;exact fK (by decide) F G hx M I (by omega) J hf (by omega) (by omega) T ((S.keep M).bG ⟨k,Z,by omega,rfl⟩)
  ·cases ho;go_simp;have z7:=H.blk.lt;have Y:Bx g W (W.alloc (.cells yI 3)):=(Bx.refl _ _).alloc _;subst O;exact fK (by decide) F G hx Y I (by omega) J hf (by omega) (by omega) (H.aX (aG (fD _ _) _)) ((S.keep Y).au ⟨W.heap.size,I,by omega,Bk.new _ _ rfl,rfl⟩)
  ·cases ho;go_simp;subst O;exact fK (by decide) F G hx (Bx.refl _ _) I (by omega) J hf (by omega) (by omega) H (S.ar rfl)
  ·cases ho;have e3:=S.s3 (s ⟨3,.data⟩ (by simp) rfl);subst e3;go_simp;refine (pA H (by omega) (by omega) _ (by omega) (by omega)).mono ?_;rintro e W1 ⟨k,rfl,Z,y6,T,M⟩;obtain⟨j,rfl⟩:=nU Z;subst O;exact fK (by decide) F G hx M I (by omega) J hf (by omega) (by omega) T ((S.keep M).aq ⟨j,by omega,rfl⟩)
  ·cases ho;obtain⟨b,x1,h9,R,rfl⟩:=S.s2 (s ⟨2,.data⟩ (by simp) rfl);obtain⟨j,hj,rfl⟩:=S.s4 (s ⟨4,.data⟩ (by simp) rfl);have z6:((j:Int)<9):=by omega
   go_simp;subst O;exact fK (by decide) F G hx (Bx.refl _ _) I (by omega) J hf (by omega) (by omega) H (S.ai ⟨b,j,x1,h9,hj,R,rfl⟩)
  ·cases ho;obtain⟨b,j,x1,h9,hj,R,rfl⟩:=S.s5 (s ⟨5,.data⟩ (by simp) rfl);obtain⟨V,hV,x3,x2⟩:=Lq hj;have hc:=R.cell hV;go_simp;subst O;exact fK (by decide) F G hx (Bx.refl _ _) I (by omega) J hf (by omega) (by omega) H (S.bm ⟨V,x3,x2,rfl⟩)
  ·cases ho;go_simp;subst O;exact fK (by decide) F G hx (Bx.refl _ _) I (by omega) J hf (by omega) (by omega) H (S.bl rfl)
  ·cases ho;have e7:=S.s7 (s ⟨7,.data⟩ (by simp) rfl);subst e7;go_simp;refine (tR H (by omega) (by omega)).mono ?_;rintro e W1 ⟨A,B',rfl,y2,y1,y0,x9,⟨p2,w2,v9,T⟩,M⟩;subst O;exact fK (by decide) F G hx M I (by omega) J hf (by omega) (by omega) T ((S.keep M).bj ⟨A,B',y2,y1,y0,x9,rfl⟩)
  ·cases ho;go_simp;have z7:=H.blk.lt;have Y:Bx g W (W.alloc (.cells uH 3)):=(Bx.refl _ _).alloc _;subst O;exact fK (by decide) F G hx Y I (by omega) J hf (by omega) (by omega) (H.aX (aG (fD _ _) _)) ((S.keep Y).cE ⟨W.heap.size,I,by omega,Bk.new _ _ rfl,rfl⟩)
  ·cases ho;go_simp;subst O;exact fK (by decide) F G hx (Bx.refl _ _) I (by omega) J hf (by omega) (by omega) H (S.bC rfl)
  ·cases ho;have v0:=S.s10 (s ⟨10,.data⟩ (by simp) rfl);subst v0;go_simp;refine (pA H (by omega) (by omega) _ (by omega) (by omega)).mono ?_;rintro e W1 ⟨k,rfl,Z,y6,T,M⟩;obtain⟨j,rfl⟩:=nU Z;subst O;exact fK (by decide) F G hx M I (by omega) J hf (by omega) (by omega) T ((S.keep M).az ⟨j,by omega,rfl⟩)
  ·cases ho;obtain⟨b,x1,h9,R,rfl⟩:=S.s9 (s ⟨9,.data⟩ (by simp) rfl);obtain⟨j,hj,rfl⟩:=S.s11 (s ⟨11,.data⟩ (by simp) rfl);have z6:((j:Int)<8):=by omega
   go_simp;subst O;exact fK (by decide) F G hx (Bx.refl _ _) I (by omega) J hf (by omega) (by omega) H (S.aw ⟨b,j,x1,h9,hj,R,rfl⟩)
  ·cases ho;obtain⟨b,j,x1,h9,hj,R,rfl⟩:=S.s12 (s ⟨12,.data⟩ (by simp) rfl);obtain⟨V,hV,x3,x2⟩:=K6 hj;have hc:=R.cell hV;go_simp;subst O;exact fK (by decide) F G hx (Bx.refl _ _) I (by omega) J hf (by omega) (by omega) H (S.bu ⟨V,x3,x2,rfl⟩)
  ·cases ho;obtain⟨K1,z9,z8,rfl⟩:=S.s1 (s ⟨1,.data⟩ (by simp) rfl);obtain⟨V,x3,x2,rfl⟩:=S.s6 (s ⟨6,.data⟩ (by simp) rfl);obtain⟨A,B',y2,y1,y0,x9,rfl⟩:=S.s8 (s ⟨8,.data⟩ (by simp) rfl);obtain⟨D,u4,u0,rfl⟩:=S.s13 (s ⟨13,.data⟩ (by simp) rfl);go_simp;subst O;exact fK (by decide) F G hx (Bx.refl _ _) I (by omega) J hf (by omega) (by omega) H (S.cG ⟨K1,V,A,B',D,DU z9 z8 x3 x2 y2 y1 y0 x9 u4 u0,rfl⟩)
  ·cases ho;obtain⟨K1,V,A,B',D,x7,rfl⟩:=S.s14 (s ⟨14,.data⟩ (by simp) rfl);have U:=J y4;obtain⟨q0,q1,q2,q3,q4⟩:=U.aa;have f0:=U.free 0;have f1:=U.free 1;have f2:=U.free 2;have f3:=U.free 3;have f4:=U.free 4;go_simp;subst O;have hB:=h.size;have nb:∀b,w.heap.size+1<=b->(((((W.setCell ⟨w.heap.size,0,none⟩ (.int .i64 K1)).setCell ⟨w.heap.size,1,none⟩ (.int .i64 V)).setCell ⟨w.heap.size,2,none⟩ (.int .i64 A)).setCell ⟨w.heap.size,3,none⟩ (.int .i64 B')).setCell ⟨w.heap.size,4,none⟩ (.int .i64 D)).heap[b]?=W.heap[b]?:=fun b U=>by
    rw[fV _ _ _ _ (by simp;omega),fV _ _ _ _ (by simp;omega),fV _ _ _ _ (by simp;omega),fV _ _ _ _ (by simp;omega),fV _ _ _ _ (by simp;omega)]
   refine⟨by simp[F],⟨p',x8,by omega,((((H.apart (by simp;omega) (by simp;omega) _).apart (by simp;omega) (by simp;omega) _).apart (by simp;omega) (by simp;omega) _).apart (by simp;omega) (by simp;omega) _).apart (by simp;omega) (by simp;omega) _⟩,((((hx.aC (by simp) _).aC (by simp) _).aC (by simp) _).aC (by simp) _).aC (by simp) _,by simp[mF.setCell];exact I,_,_,_,_,_,_,_,_,_,_,_,_,_,_,_,_,rfl,S.last nb,fun e=>?_,fun _=>⟨K1,V,A,B',D,x7,U.eB _ _ _ _ _⟩⟩;simp[F]at e
theorem yT {l:List Rw}{r:Rw}(h:∀x∈l,lN x)(hr:lN r):∀x∈l++[r],lN x:=fun x hx=>by
 rcases List.mem_append.1 hx with hx|hx
 ·exact h x hx
 ·rw[List.mem_singleton.1 hx];exact hr
theorem Dv {B F s I B' G:Int}(h:lN (((K,V),(A,B)),D))(H:lN (((F,s),(I,B')),G)):lN (((F,s),(A,B)),D)/\lN (((F,s),(A,B)),-G):=by
 obtain⟨h1,h2,h3⟩:=h;obtain⟨h4,h5,h6⟩:=H;simp only[cU,bH,cH,Bool.and_eq_true,decide_eq_true_eq]at h1 h4;simp only at h2 h3 h5 h6;exact⟨DU (by omega) (by omega) (by omega) (by omega) (by omega) (by omega) (by omega) (by omega) (by omega) (by omega),DU (by omega) (by omega) (by omega) (by omega) (by omega) (by omega) (by omega) (by omega) (by omega) (by omega)⟩
theorem Bn {t:TypeId}{k:Nat}{xs:List lY}{p:Addr}(h:w.ownsRow B t k v n xs)(s:∀b,v.ownBlock=some b->b≠p.block)(u:lY):(w.setCell p u).ownsRow B t k v n xs:=
 dF h fun b e=>fV _ _ _ _ (s b e)
theorem zM (h:Rd B w g v n p)(hp:0<=p)(r5:p<=700000)(S:Int)(r8:0<=S)(r7:S<=10):
  Calls Tryz.prog 161 #[.pointer (some ⟨g,0,none⟩),.int .i64 S] w fun e w'=>∃(o:lY)(l:List Rw),e=.returned o/\(l.length:Int)<=S/\(∀r∈l,lN r)/\aD w' w.heap.size o l/\(∃U:Int,p<=U/\U<=p+600/\Rd B w' g v n U)/\Bx g w w':=by
 have hg:=h.blk.lt;have hh:=h.here;have hs:=h.size;have h0:=h.aX (aG (fD _ _) (.cells #[] 55));have x0:Bx g w (w.alloc (.cells #[] 55)):=(Bx.refl _ _).alloc _;have o0:=dW w rfl;go_enter Tryz.func161,Tryz.ntmps161;go_wp2_with fail;refine (pA h0 hp (by omega) _ (by omega) (by omega)).mono ?_;rintro e w1 ⟨k,rfl,l9,t2,f5,a8⟩;have o1:aD w1 w.heap.size _ []:=oX o0 a8 hg;have x1:=x0.trans a8;clear o0 x0 h0 a8;go_wp2_with fail
 go_loopw [5,6] (fun o i wr=>∃(m:Nat)(l:List Rw)(U:Int),(m:Int)<=S/\i=.int .i64 m/\(l.length:Int)+m<=S/\(∀r∈l,lN r)/\aD wr w.heap.size o l/\p<=U/\U<=p+1+52*l.length/\Rd B wr g v n U/\Bx g w wr) (fun _ i _=>(intOf i).toNat)
 case atStart=>
  obtain⟨m,rfl⟩:=nU l9;exact⟨m,[],p+1,by omega,rfl,by simp;omega,by simp,o1,by omega,by simp,f5,x1⟩
 case round=>
  clear o1 x1 f5;obtain⟨m,l,U,hm,rfl,t1,e6,v0,l6,f7,hr,hx⟩:=hrel;have HO:Hid (aD wr w.heap.size u5 l):=v0;have HQ:Hid (U<=p+1+52*l.length):=f7;have HS:Hid (∀r∈l,lN r):=e6;have r2:U<=p+521:=by omega
  clear e6 f7
  by_cases t0:0<m
  ·have R0:Rs wr u5 l:=aD.rs v0 (by omega);obtain⟨a5,G,rfl,hC,l8,l7,J⟩:=Rs.open R0;unfold maxLen at l8;have HC:=(show Hid _ from J);clear J R0 v0 l7;go_wp2_with fail;refine (uX hr (by omega) (by omega)).mono ?_;rintro e F ⟨K,V,A,M,D,rfl,e5,⟨p2,r4,r3,f3⟩,a7⟩;have u8:aD F w.heap.size (.slice a5 l.length G) l:=oX HO.out a7 hg;have x2:=hx.trans a7;have r1:=x2.size;have HB:Hid (∀b,(lI a5 l.length G).ownBlock=some b->b≠F.heap.size):=fun b e=>by have:=oT u8 b e;omega
   have v4:Hid (lN (((K,V),(A,M)),D)):=e5;have b2:=f3.aX (aG (fD _ _) (.cells #[.int .i64 K,.int .i64 V,.int .i64 A,.int .i64 M,.int .i64 D] 55));have b3:Bk (F.alloc (.cells #[.int .i64 K,.int .i64 V,.int .i64 A,.int .i64 M,.int .i64 D] 55)) F.heap.size #[.int .i64 K,.int .i64 V,.int .i64 A,.int .i64 M,.int .i64 D] 55:=Bk.new _ _ rfl;have h9:aD (F.alloc (.cells #[.int .i64 K,.int .i64 V,.int .i64 A,.int .i64 M,.int .i64 D] 55)) w.heap.size (.slice a5 l.length G) l:=u8.alloc _;have x3:=x2.alloc (.cells #[.int .i64 K,.int .i64 V,.int .i64 A,.int .i64 M,.int .i64 D] 55);have r0:F.heap.size<(F.alloc (.cells #[.int .i64 K,.int .i64 V,.int .i64 A,.int .i64 M,.int .i64 D] 55)).heap.size:=by simp
   clear e5 hr hx a7 HO u8 f3
   go_upto_region 6 with fail
   generalize (F.alloc (.cells #[.int .i64 K,.int .i64 V,.int .i64 A,.int .i64 M,.int .i64 D] 55))=w3 at*
   by_cases o6:0<l.length
   ·go_wp2_with fail;refine (pA b2 (by omega) (by omega) _ (by omega) (by omega)).mono ?_;rintro e w4 ⟨k3,rfl,p3,p1,b1,z9⟩;have Z:aD w4 w.heap.size (.slice a5 l.length G) l:=oX h9 z9 hg;have b4:=b3.aN z9 (by omega);have x4:=x3.trans z9;have q9:=z9.size;clear h9 b3 x3 b2 z9
    by_cases g0:k3=0
    ·subst g0;go_wp2_with fail;refine (pA b1 (by omega) (by omega) _ (by omega) (by omega)).mono ?_;rintro e w5 ⟨j0,rfl,m1,hA,f2,z8⟩;obtain⟨j,rfl⟩:=nU m1;have u4:aD w5 w.heap.size (.slice a5 l.length G) l:=oX Z z8 hg;have b5:=b4.aN z8 (by omega);have x5:=x4.trans z8;have q6:=z8.size;have m0:j<l.length:=by omega
     have R5:Rs w5 (.slice a5 l.length G) l:=aD.rs u4 (by omega);obtain⟨hG,o2,ee,_,_,_,J⟩:=Rs.open R5;simp only[lI.injEq,true_and]at ee;obtain⟨rfl,rfl⟩:=ee;obtain⟨g5,x9,I,H,A2,B2,O,rfl,hB,f6,c0,c1,c2,c3,c4⟩:=J j m0;have y9:=HS.out _ (List.mem_of_getElem? f6);have n6:Hid (lN (((I,H),(A,M)),D)):=(Dv v4.out y9).1;have n5:Hid (lN (((I,H),(A,M)),-O)):=(Dv v4.out y9).2;have hE: -3<=O:=y9.2.1;have hD:O<=3:=y9.2.2;have e9:=f2.aX (aG (fD _ _) (.cells #[.int .i64 I,.int .i64 H,.int .i64 A2,.int .i64 B2,.int .i64 O] 55));have y6:Bk (w5.alloc (.cells #[.int .i64 I,.int .i64 H,.int .i64 A2,.int .i64 B2,.int .i64 O] 55)) w5.heap.size #[.int .i64 I,.int .i64 H,.int .i64 A2,.int .i64 B2,.int .i64 O] 55:=Bk.new _ _ rfl;have b6:=b5.alloc (.cells #[.int .i64 I,.int .i64 H,.int .i64 A2,.int .i64 B2,.int .i64 O] 55);have a6:aD (w5.alloc (.cells #[.int .i64 I,.int .i64 H,.int .i64 A2,.int .i64 B2,.int .i64 O] 55)) w.heap.size (.slice (some ⟨g5,x9,none⟩) l.length G) l:=u4.alloc _;have x6:=x5.alloc (.cells #[.int .i64 I,.int .i64 H,.int .i64 A2,.int .i64 B2,.int .i64 O] 55);clear J R5 Z u4 b4 b5 x4 x5 z8 b1 f2 f6 y9
     go_upto_region 8 with fail
     clear c0 c1 c2 c3 c4;generalize (w5.alloc (.cells #[.int .i64 I,.int .i64 H,.int .i64 A2,.int .i64 B2,.int .i64 O] 55))=w6 at*;obtain⟨y0,y1,y2,y3,y4⟩:=y6.aa;obtain⟨q0,q1,q2,q3,q4⟩:=b6.aa;have f0:=b6.free 0;have b7:=b6.set 0 (.int .i64 I);have y7:=y6.apart (p:=⟨F.heap.size,0,none⟩) (by simp;omega) (.int .i64 I);have e8:=e9.apart (q:=⟨F.heap.size,0,none⟩) (by simp;omega) (by simp;omega) (.int .i64 I);have x7:=x6.aC (p:=⟨F.heap.size,0,none⟩) (by simp;omega) (.int .i64 I);have a4:aD (w6.setCell ⟨F.heap.size,0,none⟩ (.int .i64 I)) w.heap.size (.slice (some ⟨g5,x9,none⟩) l.length G) l:=Bn a6 HB.out _
     go_upto_region 9 with fail
     clear y0 y1 y2 y3 y4 q0 q1 q2 q3 q4 f0 b6 y6 e9 x6 a6;generalize (w6.setCell ⟨F.heap.size,0,none⟩ (.int .i64 I))=w7 at*;obtain⟨y0,y1,y2,y3,y4⟩:=y7.aa;obtain⟨q0,q1,q2,q3,q4⟩:=Bk.aa b7;have f1:=b7.free 1;have b8:=b7.set 1 (.int .i64 H);have y8:=y7.apart (p:=⟨F.heap.size,1,none⟩) (by simp;omega) (.int .i64 H);have e7:=e8.apart (q:=⟨F.heap.size,1,none⟩) (by simp;omega) (by simp;omega) (.int .i64 H);have x8:=x7.aC (p:=⟨F.heap.size,1,none⟩) (by simp;omega) (.int .i64 H);have a3:aD (w7.setCell ⟨F.heap.size,1,none⟩ (.int .i64 H)) w.heap.size (.slice (some ⟨g5,x9,none⟩) l.length G) l:=Bn a4 HB.out _
     go_upto_region 10 with fail
     clear y0 y1 y2 y3 y4 q0 q1 q2 q3 q4 f1 b7 y7 e8 x7 a4;generalize (w7.setCell ⟨F.heap.size,1,none⟩ (.int .i64 H))=w8 at*;have g1:Bk w8 F.heap.size #[.int .i64 I,.int .i64 H,.int .i64 A,.int .i64 M,.int .i64 D] 55:=b8;clear b8;go_wp2_with fail;refine (pA e7 (by omega) (by omega) _ (by omega) (by omega)).mono ?_;rintro e wa ⟨k4,rfl,p0,o9,b0,z7⟩;have Y:aD wa w.heap.size (.slice (some ⟨g5,x9,none⟩) l.length G) l:=oX a3 z7 hg;have ba:=g1.aN z7 (by omega);have ya:=y8.aN z7 (by omega);have xa:=x8.trans z7;clear a3 g1 y8 x8 e7 z7
     by_cases f8:k4=0
     ·subst f8;obtain⟨y0,y1,y2,y3,y4⟩:=ya.aa;obtain⟨q0,q1,q2,q3,q4⟩:=ba.aa;have f4:=ba.free 4;have bb:=ba.set 4 (.int .i64 (-O));have l5:=b0.apart (q:=⟨F.heap.size,4,none⟩) (by simp;omega) (by simp;omega) (.int .i64 (-O));have xb:=xa.aC (p:=⟨F.heap.size,4,none⟩) (by simp;omega) (.int .i64 (-O));have u0:aD (wa.setCell ⟨F.heap.size,4,none⟩ (.int .i64 (-O))) w.heap.size (.slice (some ⟨g5,x9,none⟩) l.length G) l:=Bn Y HB.out _
      go_upto_region 12 with fail
      clear y0 y1 y2 y3 y4 q0 q1 q2 q3 q4 f4 ba ya b0 xa Y;generalize (wa.setCell ⟨F.heap.size,4,none⟩ (.int .i64 (-O)))=wb at*;have m3:Bk wb F.heap.size #[.int .i64 I,.int .i64 H,.int .i64 A,.int .i64 M,.int .i64 (-O)] 55:=bb;clear bb;obtain⟨q0,q1,q2,q3,q4⟩:=m3.aa;have c9:=xb.size
      go_wp2_with (at_builtin;refine jZ _ rfl _ _ rfl w.heap.size _ l rfl (u0.alloc _) _ I H A M (-O) rfl (Bk.new _ _ rfl) (by omega) (by simp;omega) ?_;intro g9 v1 T R s b9)
      have z0:Rd B T g v n (p2+1+1+1):=(l5.aX (aG (fD _ _) _)).grown s (fun k e=>by have:=oB u0 k e;omega);have y5:Bx g w T:=(xb.alloc _).grown s (oB u0);exact⟨⟨m-1,l++[(((I,H),(A,M)),(-O))],(p2+1+1+1),by omega,by congr 1;omega,by simp;omega,yT HS.out n5.out,R,by omega,by have:=HQ.out;simp;omega,z0,y5⟩,by simp[intOf];omega⟩
     ·have o7:(k4==0)=false:=by simpa using f8
      obtain⟨q0,q1,q2,q3,q4⟩:=ba.aa;have c9:=xa.size
      go_wp2_with (at_builtin;refine jZ _ rfl _ _ rfl w.heap.size _ l rfl (Y.alloc _) _ I H A M D rfl (Bk.new _ _ rfl) (by omega) (by simp;omega) ?_;intro g9 v1 T R s b9)
      have z0:Rd B T g v n (p2+1+1+1):=(b0.aX (aG (fD _ _) _)).grown s (fun k e=>by have:=oB Y k e;omega);have y5:Bx g w T:=(xa.alloc _).grown s (oB Y);exact⟨⟨m-1,l++[(((I,H),(A,M)),D)],(p2+1+1+1),by omega,by congr 1;omega,by simp;omega,yT HS.out n6.out,R,by omega,by have:=HQ.out;simp;omega,z0,y5⟩,by simp[intOf];omega⟩
    ·have o8:(k3==0)=false:=by simpa using g0
     obtain⟨q0,q1,q2,q3,q4⟩:=b4.aa;have c9:=x4.size
     go_wp2_with (at_builtin;refine jZ _ rfl _ _ rfl w.heap.size _ l rfl (Z.alloc _) _ K V A M D rfl (Bk.new _ _ rfl) (by omega) (by simp;omega) ?_;intro g9 v1 T R s b9)
     have z0:Rd B T g v n (p2+1):=(b1.aX (aG (fD _ _) _)).grown s (fun k e=>by have:=oB Z k e;omega);have y5:Bx g w T:=(x4.alloc _).grown s (oB Z);exact⟨⟨m-1,l++[(((K,V),(A,M)),D)],(p2+1),by omega,by congr 1;omega,by simp;omega,yT HS.out v4.out,R,by omega,by have:=HQ.out;simp;omega,z0,y5⟩,by simp[intOf];omega⟩
   ·obtain rfl:l=[]:=List.eq_nil_of_length_eq_zero (by omega);simp only[List.length_nil]at *;obtain⟨q0,q1,q2,q3,q4⟩:=b3.aa;have c9:=x3.size
    go_wp2_with (at_builtin;refine jZ _ rfl _ _ rfl w.heap.size _ [] rfl (h9.alloc _) _ K V A M D rfl (Bk.new _ _ rfl) (by simp) (by simp;omega) ?_;intro g9 v1 T R s b9)
    have z0:Rd B T g v n p2:=(b2.aX (aG (fD _ _) _)).grown s (fun k e=>by have:=oB h9 k e;omega);have y5:Bx g w T:=(x3.alloc _).grown s (oB h9);exact⟨⟨m-1,[]++[(((K,V),(A,M)),D)],p2,by omega,by congr 1;omega,by simp;omega,yT HS.out v4.out,R,by omega,by have:=HQ.out;simp;omega,z0,y5⟩,by simp[intOf];omega⟩
  ·obtain rfl:m=0:=by omega
   have:=HQ.out;go_wp2_with fail;go_ret;exact⟨_,l,rfl,by omega,HS.out,HO.out,⟨U,l6,by omega,hr⟩,hx⟩
theorem i9 {l:List Rw}{o:Obj}(h:aD w B v l):aD (w.alloc o) B v l:=h.alloc o
theorem iA {l:List Rw}(h:aD w B v l):aD w.drew B v l:=h
section
variable {ops:Array mJ}{o:mJ}{a:Act}{Kk:Act->mF->Prop}{Q:Exit->Act->mF->Prop}{E:Prop}
theorem iU (w:mF)(x0:o.guard=none)(s x:Operand)(ho:o.op=.call { callee:= .builtin .append,args:=#[s,x],argTypes:=#[28,28] })
  (F:Nat) (v:lY) (l:List Rw) (hs:a.eval s=v) (G:aD w F v l) (U:lY) (m:List Rw) (hx:a.eval x=U) (hR:Rs w U m) (hl:l.length+m.length<=2000000) (M:F<=w.heap.size)
  (h:∀v' H,aD H F v' (l++m)->w.grownBy H v.ownBlock->Kk (a.put o.dst v') H):
  if oJ o (yielded ops a.tmps)=true then mJ.wp Tryz.prog o a w Kk Q else E:=by
 have hw:oJ o (yielded ops a.tmps)=true:=by simp[oJ,x0]
 rw[if_pos hw];obtain⟨i0,hi,h9,Z,Y⟩:=info_parts qO;obtain⟨ad,O,rfl,R⟩:=Dh hR
 by_cases I:m=[]
 ·subst I;have S:=A5 G ad O o.type;unfold mJ.wp;simp[execOp,ho,resolve,invoke,builtin,hs,hx,S,Result.andThen];exact h v w (by simpa using G) ⟨rfl,rfl,rfl,Nat.le_refl _,fun _ _ _=>rfl⟩
 ·obtain⟨g,off,rfl,J⟩:=R I;have T:0<m.length:=List.length_pos_iff.2 I;refine wp_append_lies w s x 28 ho F 55 i0 _ 5 40 Tryz.underlying28 hi h9 Z Y rfl (by decide) v l.length (l.flatMap fX) hs G ⟨g,off,none⟩ m.length O (m.flatMap fX) hx (lX jD m) J (Di m) T (by unfold maxLen;omega) (by omega) M w.heap.size rfl ?_;intro g' x3 H h1 h2 _ _;refine h _ H ?_ h2
  show H.ownsRow _ _ _ _ _ _
  rw[List.flatMap_append,List.length_append];exact h1
end
theorem Fc {B:Int}(h:K<0\/3<K):cU (((K,V),(A,B)),D)=false:=by
 have:cH K 0 3=false:=by simp[cH];omega
 simp[cU,this]
theorem G4 {B:Int}(h:V<0\/99<V):cU (((K,V),(A,B)),D)=false:=by
 have:cH V 0 99=false:=by simp[cH];omega
 simp[cU,this]
theorem DG {B:Int}(h:A<0\/7<B):cU (((K,V),(A,B)),D)=false:=by
 have:bH A B=false:=by simp[bH];omega
 simp[cU,this]
theorem EG {B:Int}(h:D < -99999\/99999<D):cU (((K,V),(A,B)),D)=false:=by
 have:cH D (-99999) 99999=false:=by simp[cH];omega
 simp[cU,this]
theorem E6 (h:Rd B w g v n p)(hp:0<=p)(e5:p<=700000)(lv:lY)(l:List Rw)(hl:Rs w lv l)(e6:l.length<=1000)(a4:∀W,Bx g w W->Rs W lv l):
  Calls Tryz.prog 162 #[.pointer (some ⟨g,0,none⟩),lv] w fun e w'=>∃(o:lY)(l':List Rw),e=.returned o/\l'.length=l.length+1/\aR l'=false/\aD w' w.heap.size o l'/\(∃p':Int,p<=p'/\p'<=p+60/\Rd B w' g v n p')/\Bx g w w':=by
 have hg:=h.blk.lt;have hh:=h.here;have hs:=h.size;have HL:Hid (∀W,Bx g w W->Rs W lv l):=a4;obtain⟨al,b1,rfl,-,-,-,-⟩:=hl;generalize b9:lI al l.length b1=lv at*;clear b9 a4;go_enter Tryz.func162,Tryz.ntmps162;go_wp2_with fail;refine (uX h hp (by omega)).mono ?_;rintro e w1 ⟨K,V,A,G,D,rfl,-,⟨p1,e4,d5,a3⟩,a1⟩;have d4:=a1.size;have a2:=a3.aX (aG (fD _ _) (.cells #[.int .i64 K,.int .i64 V,.int .i64 A,.int .i64 G,.int .i64 D] 55));have b2:Bk (w1.alloc (.cells #[.int .i64 K,.int .i64 V,.int .i64 A,.int .i64 G,.int .i64 D] 55)) w1.heap.size #[.int .i64 K,.int .i64 V,.int .i64 A,.int .i64 G,.int .i64 D] 55:=Bk.new _ _ rfl;have x2:=a1.alloc (.cells #[.int .i64 K,.int .i64 V,.int .i64 A,.int .i64 G,.int .i64 D] 55)
 go_upto_region 2 with fail
 generalize (w1.alloc (.cells #[.int .i64 K,.int .i64 V,.int .i64 A,.int .i64 G,.int .i64 D] 55))=w2 at*;clear a1 a3;go_wp2_with fail;refine (pA a2 (by omega) (by omega) _ (by omega) (by omega)).mono ?_;rintro e w3 ⟨k,rfl,e8,e7,z7,a0⟩;have b3:=b2.aN a0 (by omega);have x3:=x2.trans a0;have d3:=b3.lt;clear a2 b2 x2 a0
 by_cases h0:k=0
 ·subst h0;have z6:=z7.aX (aG (fD _ _) (.cells #[.int .i64 (-1),.int .i64 4] 3));have t4:Bk (w3.alloc (.cells #[.int .i64 (-1),.int .i64 4] 3)) w3.heap.size #[.int .i64 (-1),.int .i64 4] 3:=Bk.new _ _ rfl;have b4:=b3.alloc (.cells #[.int .i64 (-1),.int .i64 4] 3);have x4:=x3.alloc (.cells #[.int .i64 (-1),.int .i64 4] 3);go_wp2_with fail;refine (pA z6 (by omega) (by omega) _ (by omega) (by omega)).mono ?_;rintro e w5 ⟨j,rfl,a6,a5,x8,x7⟩;have b5:=b4.aN x7 (by omega);have t5:=t4.aN x7 (by omega);have x5:=x4.trans x7;obtain⟨l0,l1,_,_⟩:=t5.two;obtain⟨U,T,S,R,O⟩:=b5.aa;have f5:=b5.free 0;clear z7 b3 x3 z6 t4 b4 x4 x7
  rcases (show j=0\/j=1 by omega) with rfl|rfl
  ·have b6:=b5.set 0 (.int .i64 (-1));have y1:=x8.apart (q:=⟨w1.heap.size,0,none⟩) (by simp;omega) (by simp;omega) (.int .i64 (-1));have Y:=x5.aC (p:=⟨w1.heap.size,0,none⟩) (by simp;omega) (.int .i64 (-1))
   go_upto_region 12 with fail
   generalize (w5.setCell ⟨w1.heap.size,0,none⟩ (.int .i64 (-1)))=s at*;have J:Bk s w1.heap.size #[.int .i64 (-1),.int .i64 V,.int .i64 A,.int .i64 G,.int .i64 D] 55:=b6;clear l0 l1 U T S R O f5 b5 t5 x8 x5 b6;obtain⟨U,T,S,R,O⟩:=J.aa;have RW:Hid (Rs s lv l):=HL.out _ Y;have HX:Hid (∀W,gY s.heap.size s W->W.cell? ⟨w1.heap.size,0,none⟩=some (.int .i64 (-1))/\W.cell? ⟨w1.heap.size,1,none⟩=some (.int .i64 V)/\W.cell? ⟨w1.heap.size,2,none⟩=some (.int .i64 A)/\W.cell? ⟨w1.heap.size,3,none⟩=some (.int .i64 G)/\W.cell? ⟨w1.heap.size,4,none⟩=some (.int .i64 D)):=
    fun W hW=>(J.keep hW).aa
   have xs:=Y.size;clear U T S R O
   go_upto_region 12 with fail
   go_region_held3 (fun W=>W.cell? ⟨w1.heap.size,0,none⟩=some (.int .i64 (-1))/\W.cell? ⟨w1.heap.size,1,none⟩=some (.int .i64 V)/\W.cell? ⟨w1.heap.size,2,none⟩=some (.int .i64 A)/\W.cell? ⟨w1.heap.size,3,none⟩=some (.int .i64 G)/\W.cell? ⟨w1.heap.size,4,none⟩=some (.int .i64 D))
    (exact HX.out _ (by (repeat' (first|with_reducible exact fD _ _|with_reducible assumption|with_reducible refine aG ?_ _|with_reducible refine fH ?_))))
    (first
     | (refine iU _ (by rfl) _ _ (by rfl) s.heap.size (.slice (some ⟨_,0,none⟩) 0 0) [] (by rfl) (by (repeat' (first|with_reducible assumption|with_reducible exact bQ (dW _ rfl) (by (simp<;>omega))|with_reducible exact bQ (dW _ (by simp)) (by (simp<;>omega))|with_reducible refine i9 ?_|with_reducible refine iA ?_))) _ l (by rfl) (RW.out.keep (by (repeat' (first|with_reducible exact fD _ _|with_reducible assumption|with_reducible refine aG ?_ _|with_reducible refine fH ?_)))) (by simp;omega) (by (simp<;>omega)) ?_;intro v4 Z F x1;have I:gY s.heap.size s Z:=Below.aO (by (repeat' (first|with_reducible exact fD _ _|with_reducible assumption|with_reducible refine aG ?_ _|with_reducible refine fH ?_))) x1 (by (simp<;>omega)) (fun k e=>by simp[kX]at e;omega);have y0:aD Z s.heap.size v4 l:=F)
     | (refine nX _ (by rfl) _ _ (by rfl) s.heap.size v4 l (by rfl) (by (repeat' (first|with_reducible assumption|with_reducible exact bQ (dW _ rfl) (by (simp<;>omega))|with_reducible exact bQ (dW _ (by simp)) (by (simp<;>omega))|with_reducible refine i9 ?_|with_reducible refine iA ?_))) _ (-1) V A G D (by rfl) (by (repeat' (first|with_reducible exact Bk.new _ _ rfl|with_reducible exact Bk.new _ _ (by (simp<;>omega))|with_reducible refine Bk.drew ?_|with_reducible refine Bk.alloc ?_ _|with_reducible refine Bk.aO ?_ (by assumption) (fun k e=>by simp[kX]at e;omega)))) (by omega) (by have:=I.size;(simp<;>omega)) ?_;intro g9 y5 w9 M x0 z8;have H:gY s.heap.size s w9:=Below.aO (by (repeat' (first|with_reducible exact fD _ _|with_reducible assumption|with_reducible refine aG ?_ _|with_reducible refine fH ?_))) x0 (by have:=I.size;(simp<;>omega)) (oB F)))
   all_goals go_wp2_with fail
   all_goals go_ret
   all_goals exact⟨_,l++[((((-1),V),(A,G)),D)],rfl,by simp,mP (r:=((((-1),V),(A,G)),D)) (by simp) (Fc (by omega)),bQ M (by omega),⟨(p1+1+1),by omega,by omega,y1.aX H⟩,Y.trans (Bx.aA H)⟩
  ·have b6:=b5.set 0 (.int .i64 (4));have y1:=x8.apart (q:=⟨w1.heap.size,0,none⟩) (by simp;omega) (by simp;omega) (.int .i64 (4));have Y:=x5.aC (p:=⟨w1.heap.size,0,none⟩) (by simp;omega) (.int .i64 (4))
   go_upto_region 12 with fail
   generalize (w5.setCell ⟨w1.heap.size,0,none⟩ (.int .i64 (4)))=s at*;have J:Bk s w1.heap.size #[.int .i64 (4),.int .i64 V,.int .i64 A,.int .i64 G,.int .i64 D] 55:=b6;clear l0 l1 U T S R O f5 b5 t5 x8 x5 b6;obtain⟨U,T,S,R,O⟩:=J.aa;have RW:Hid (Rs s lv l):=HL.out _ Y;have HX:Hid (∀W,gY s.heap.size s W->W.cell? ⟨w1.heap.size,0,none⟩=some (.int .i64 (4))/\W.cell? ⟨w1.heap.size,1,none⟩=some (.int .i64 V)/\W.cell? ⟨w1.heap.size,2,none⟩=some (.int .i64 A)/\W.cell? ⟨w1.heap.size,3,none⟩=some (.int .i64 G)/\W.cell? ⟨w1.heap.size,4,none⟩=some (.int .i64 D)):=
    fun W hW=>(J.keep hW).aa
   have xs:=Y.size;clear U T S R O
   go_upto_region 12 with fail
   go_region_held3 (fun W=>W.cell? ⟨w1.heap.size,0,none⟩=some (.int .i64 (4))/\W.cell? ⟨w1.heap.size,1,none⟩=some (.int .i64 V)/\W.cell? ⟨w1.heap.size,2,none⟩=some (.int .i64 A)/\W.cell? ⟨w1.heap.size,3,none⟩=some (.int .i64 G)/\W.cell? ⟨w1.heap.size,4,none⟩=some (.int .i64 D))
    (exact HX.out _ (by (repeat' (first|with_reducible exact fD _ _|with_reducible assumption|with_reducible refine aG ?_ _|with_reducible refine fH ?_))))
    (first
     | (refine iU _ (by rfl) _ _ (by rfl) s.heap.size (.slice (some ⟨_,0,none⟩) 0 0) [] (by rfl) (by (repeat' (first|with_reducible assumption|with_reducible exact bQ (dW _ rfl) (by (simp<;>omega))|with_reducible exact bQ (dW _ (by simp)) (by (simp<;>omega))|with_reducible refine i9 ?_|with_reducible refine iA ?_))) _ l (by rfl) (RW.out.keep (by (repeat' (first|with_reducible exact fD _ _|with_reducible assumption|with_reducible refine aG ?_ _|with_reducible refine fH ?_)))) (by simp;omega) (by (simp<;>omega)) ?_;intro v4 Z F x1;have I:gY s.heap.size s Z:=Below.aO (by (repeat' (first|with_reducible exact fD _ _|with_reducible assumption|with_reducible refine aG ?_ _|with_reducible refine fH ?_))) x1 (by (simp<;>omega)) (fun k e=>by simp[kX]at e;omega);have y0:aD Z s.heap.size v4 l:=F)
     | (refine nX _ (by rfl) _ _ (by rfl) s.heap.size v4 l (by rfl) (by (repeat' (first|with_reducible assumption|with_reducible exact bQ (dW _ rfl) (by (simp<;>omega))|with_reducible exact bQ (dW _ (by simp)) (by (simp<;>omega))|with_reducible refine i9 ?_|with_reducible refine iA ?_))) _ (4) V A G D (by rfl) (by (repeat' (first|with_reducible exact Bk.new _ _ rfl|with_reducible exact Bk.new _ _ (by (simp<;>omega))|with_reducible refine Bk.drew ?_|with_reducible refine Bk.alloc ?_ _|with_reducible refine Bk.aO ?_ (by assumption) (fun k e=>by simp[kX]at e;omega)))) (by omega) (by have:=I.size;(simp<;>omega)) ?_;intro g9 y5 w9 M x0 z8;have H:gY s.heap.size s w9:=Below.aO (by (repeat' (first|with_reducible exact fD _ _|with_reducible assumption|with_reducible refine aG ?_ _|with_reducible refine fH ?_))) x0 (by have:=I.size;(simp<;>omega)) (oB F)))
   all_goals go_wp2_with fail
   all_goals go_ret
   all_goals exact⟨_,l++[((((4),V),(A,G)),D)],rfl,by simp,mP (r:=((((4),V),(A,G)),D)) (by simp) (Fc (by omega)),bQ M (by omega),⟨(p1+1+1),by omega,by omega,y1.aX H⟩,Y.trans (Bx.aA H)⟩
 have e0:(k==0)=false:=by simpa using h0
 by_cases h1:k=1
 ·subst h1;have z6:=z7.aX (aG (fD _ _) (.cells #[.int .i64 (-1),.int .i64 100] 3));have t4:Bk (w3.alloc (.cells #[.int .i64 (-1),.int .i64 100] 3)) w3.heap.size #[.int .i64 (-1),.int .i64 100] 3:=Bk.new _ _ rfl;have b4:=b3.alloc (.cells #[.int .i64 (-1),.int .i64 100] 3);have x4:=x3.alloc (.cells #[.int .i64 (-1),.int .i64 100] 3);go_wp2_with fail;refine (pA z6 (by omega) (by omega) _ (by omega) (by omega)).mono ?_;rintro e w5 ⟨j,rfl,a6,a5,x8,x7⟩;have b5:=b4.aN x7 (by omega);have t5:=t4.aN x7 (by omega);have x5:=x4.trans x7;obtain⟨l0,l1,_,_⟩:=t5.two;obtain⟨U,T,S,R,O⟩:=b5.aa;have f5:=b5.free 1;clear z7 b3 x3 z6 t4 b4 x4 x7
  rcases (show j=0\/j=1 by omega) with rfl|rfl
  ·have b6:=b5.set 1 (.int .i64 (-1));have y1:=x8.apart (q:=⟨w1.heap.size,1,none⟩) (by simp;omega) (by simp;omega) (.int .i64 (-1));have Y:=x5.aC (p:=⟨w1.heap.size,1,none⟩) (by simp;omega) (.int .i64 (-1))
   go_upto_region 12 with fail
   generalize (w5.setCell ⟨w1.heap.size,1,none⟩ (.int .i64 (-1)))=s at*;have J:Bk s w1.heap.size #[.int .i64 K,.int .i64 (-1),.int .i64 A,.int .i64 G,.int .i64 D] 55:=b6;clear l0 l1 U T S R O f5 b5 t5 x8 x5 b6;obtain⟨U,T,S,R,O⟩:=J.aa;have RW:Hid (Rs s lv l):=HL.out _ Y;have HX:Hid (∀W,gY s.heap.size s W->W.cell? ⟨w1.heap.size,0,none⟩=some (.int .i64 K)/\W.cell? ⟨w1.heap.size,1,none⟩=some (.int .i64 (-1))/\W.cell? ⟨w1.heap.size,2,none⟩=some (.int .i64 A)/\W.cell? ⟨w1.heap.size,3,none⟩=some (.int .i64 G)/\W.cell? ⟨w1.heap.size,4,none⟩=some (.int .i64 D)):=
    fun W hW=>(J.keep hW).aa
   have xs:=Y.size;clear U T S R O
   go_upto_region 12 with fail
   go_region_held3 (fun W=>W.cell? ⟨w1.heap.size,0,none⟩=some (.int .i64 K)/\W.cell? ⟨w1.heap.size,1,none⟩=some (.int .i64 (-1))/\W.cell? ⟨w1.heap.size,2,none⟩=some (.int .i64 A)/\W.cell? ⟨w1.heap.size,3,none⟩=some (.int .i64 G)/\W.cell? ⟨w1.heap.size,4,none⟩=some (.int .i64 D))
    (exact HX.out _ (by (repeat' (first|with_reducible exact fD _ _|with_reducible assumption|with_reducible refine aG ?_ _|with_reducible refine fH ?_))))
    (first
     | (refine iU _ (by rfl) _ _ (by rfl) s.heap.size (.slice (some ⟨_,0,none⟩) 0 0) [] (by rfl) (by (repeat' (first|with_reducible assumption|with_reducible exact bQ (dW _ rfl) (by (simp<;>omega))|with_reducible exact bQ (dW _ (by simp)) (by (simp<;>omega))|with_reducible refine i9 ?_|with_reducible refine iA ?_))) _ l (by rfl) (RW.out.keep (by (repeat' (first|with_reducible exact fD _ _|with_reducible assumption|with_reducible refine aG ?_ _|with_reducible refine fH ?_)))) (by simp;omega) (by (simp<;>omega)) ?_;intro v4 Z F x1;have I:gY s.heap.size s Z:=Below.aO (by (repeat' (first|with_reducible exact fD _ _|with_reducible assumption|with_reducible refine aG ?_ _|with_reducible refine fH ?_))) x1 (by (simp<;>omega)) (fun k e=>by simp[kX]at e;omega);have y0:aD Z s.heap.size v4 l:=F)
     | (refine nX _ (by rfl) _ _ (by rfl) s.heap.size v4 l (by rfl) (by (repeat' (first|with_reducible assumption|with_reducible exact bQ (dW _ rfl) (by (simp<;>omega))|with_reducible exact bQ (dW _ (by simp)) (by (simp<;>omega))|with_reducible refine i9 ?_|with_reducible refine iA ?_))) _ K (-1) A G D (by rfl) (by (repeat' (first|with_reducible exact Bk.new _ _ rfl|with_reducible exact Bk.new _ _ (by (simp<;>omega))|with_reducible refine Bk.drew ?_|with_reducible refine Bk.alloc ?_ _|with_reducible refine Bk.aO ?_ (by assumption) (fun k e=>by simp[kX]at e;omega)))) (by omega) (by have:=I.size;(simp<;>omega)) ?_;intro g9 y5 w9 M x0 z8;have H:gY s.heap.size s w9:=Below.aO (by (repeat' (first|with_reducible exact fD _ _|with_reducible assumption|with_reducible refine aG ?_ _|with_reducible refine fH ?_))) x0 (by have:=I.size;(simp<;>omega)) (oB F)))
   all_goals go_wp2_with fail
   all_goals go_ret
   all_goals exact⟨_,l++[(((K,(-1)),(A,G)),D)],rfl,by simp,mP (r:=(((K,(-1)),(A,G)),D)) (by simp) (G4 (by omega)),bQ M (by omega),⟨(p1+1+1),by omega,by omega,y1.aX H⟩,Y.trans (Bx.aA H)⟩
  ·have b6:=b5.set 1 (.int .i64 (100));have y1:=x8.apart (q:=⟨w1.heap.size,1,none⟩) (by simp;omega) (by simp;omega) (.int .i64 (100));have Y:=x5.aC (p:=⟨w1.heap.size,1,none⟩) (by simp;omega) (.int .i64 (100))
   go_upto_region 12 with fail
   generalize (w5.setCell ⟨w1.heap.size,1,none⟩ (.int .i64 (100)))=s at*;have J:Bk s w1.heap.size #[.int .i64 K,.int .i64 (100),.int .i64 A,.int .i64 G,.int .i64 D] 55:=b6;clear l0 l1 U T S R O f5 b5 t5 x8 x5 b6;obtain⟨U,T,S,R,O⟩:=J.aa;have RW:Hid (Rs s lv l):=HL.out _ Y;have HX:Hid (∀W,gY s.heap.size s W->W.cell? ⟨w1.heap.size,0,none⟩=some (.int .i64 K)/\W.cell? ⟨w1.heap.size,1,none⟩=some (.int .i64 (100))/\W.cell? ⟨w1.heap.size,2,none⟩=some (.int .i64 A)/\W.cell? ⟨w1.heap.size,3,none⟩=some (.int .i64 G)/\W.cell? ⟨w1.heap.size,4,none⟩=some (.int .i64 D)):=
    fun W hW=>(J.keep hW).aa
   have xs:=Y.size;clear U T S R O
   go_upto_region 12 with fail
   go_region_held3 (fun W=>W.cell? ⟨w1.heap.size,0,none⟩=some (.int .i64 K)/\W.cell? ⟨w1.heap.size,1,none⟩=some (.int .i64 (100))/\W.cell? ⟨w1.heap.size,2,none⟩=some (.int .i64 A)/\W.cell? ⟨w1.heap.size,3,none⟩=some (.int .i64 G)/\W.cell? ⟨w1.heap.size,4,none⟩=some (.int .i64 D))
    (exact HX.out _ (by (repeat' (first|with_reducible exact fD _ _|with_reducible assumption|with_reducible refine aG ?_ _|with_reducible refine fH ?_))))
    (first
     | (refine iU _ (by rfl) _ _ (by rfl) s.heap.size (.slice (some ⟨_,0,none⟩) 0 0) [] (by rfl) (by (repeat' (first|with_reducible assumption|with_reducible exact bQ (dW _ rfl) (by (simp<;>omega))|with_reducible exact bQ (dW _ (by simp)) (by (simp<;>omega))|with_reducible refine i9 ?_|with_reducible refine iA ?_))) _ l (by rfl) (RW.out.keep (by (repeat' (first|with_reducible exact fD _ _|with_reducible assumption|with_reducible refine aG ?_ _|with_reducible refine fH ?_)))) (by simp;omega) (by (simp<;>omega)) ?_;intro v4 Z F x1;have I:gY s.heap.size s Z:=Below.aO (by (repeat' (first|with_reducible exact fD _ _|with_reducible assumption|with_reducible refine aG ?_ _|with_reducible refine fH ?_))) x1 (by (simp<;>omega)) (fun k e=>by simp[kX]at e;omega);have y0:aD Z s.heap.size v4 l:=F)
     | (refine nX _ (by rfl) _ _ (by rfl) s.heap.size v4 l (by rfl) (by (repeat' (first|with_reducible assumption|with_reducible exact bQ (dW _ rfl) (by (simp<;>omega))|with_reducible exact bQ (dW _ (by simp)) (by (simp<;>omega))|with_reducible refine i9 ?_|with_reducible refine iA ?_))) _ K (100) A G D (by rfl) (by (repeat' (first|with_reducible exact Bk.new _ _ rfl|with_reducible exact Bk.new _ _ (by (simp<;>omega))|with_reducible refine Bk.drew ?_|with_reducible refine Bk.alloc ?_ _|with_reducible refine Bk.aO ?_ (by assumption) (fun k e=>by simp[kX]at e;omega)))) (by omega) (by have:=I.size;(simp<;>omega)) ?_;intro g9 y5 w9 M x0 z8;have H:gY s.heap.size s w9:=Below.aO (by (repeat' (first|with_reducible exact fD _ _|with_reducible assumption|with_reducible refine aG ?_ _|with_reducible refine fH ?_))) x0 (by have:=I.size;(simp<;>omega)) (oB F)))
   all_goals go_wp2_with fail
   all_goals go_ret
   all_goals exact⟨_,l++[(((K,(100)),(A,G)),D)],rfl,by simp,mP (r:=(((K,(100)),(A,G)),D)) (by simp) (G4 (by omega)),bQ M (by omega),⟨(p1+1+1),by omega,by omega,y1.aX H⟩,Y.trans (Bx.aA H)⟩
 have e1:(k==1)=false:=by simpa using h1
 by_cases h2:k=2
 ·subst h2;obtain⟨U,T,S,R,O⟩:=b3.aa;have c0:=b3.free 2;have v6:=b3.set 2 (.int .i64 (-1));have v9:=z7.apart (q:=⟨w1.heap.size,2,none⟩) (by simp;omega) (by simp;omega) (.int .i64 (-1));have z9:=x3.aC (p:=⟨w1.heap.size,2,none⟩) (by simp;omega) (.int .i64 (-1));have b7:=(Bk.aa v6);obtain⟨z0,z1,z2,z3,z4⟩:=b7;have e9:=v6.free 3;have c4:=v6.set 3 (.int .i64 (0));have b0:=v9.apart (q:=⟨w1.heap.size,3,none⟩) (by simp;omega) (by simp;omega) (.int .i64 (0));have w8:=z9.aC (p:=⟨w1.heap.size,3,none⟩) (by simp;omega) (.int .i64 (0))
  go_upto_region 12 with fail
  generalize ((w3.setCell ⟨w1.heap.size,2,none⟩ (.int .i64 (-1))).setCell ⟨w1.heap.size,3,none⟩ (.int .i64 (0)))=s at*;have J:Bk s w1.heap.size #[.int .i64 K,.int .i64 V,.int .i64 (-1),.int .i64 0,.int .i64 D] 55:=c4;clear U T S R O;obtain⟨U,T,S,R,O⟩:=J.aa;have RW:Hid (Rs s lv l):=HL.out _ w8;have HX:Hid (∀W,gY s.heap.size s W->W.cell? ⟨w1.heap.size,0,none⟩=some (.int .i64 K)/\W.cell? ⟨w1.heap.size,1,none⟩=some (.int .i64 V)/\W.cell? ⟨w1.heap.size,2,none⟩=some (.int .i64 (-1))/\W.cell? ⟨w1.heap.size,3,none⟩=some (.int .i64 0)/\W.cell? ⟨w1.heap.size,4,none⟩=some (.int .i64 D)):=
   fun W hW=>(J.keep hW).aa
  have xs:=w8.size;clear U T S R O
  go_upto_region 12 with fail
  go_region_held3 (fun W=>W.cell? ⟨w1.heap.size,0,none⟩=some (.int .i64 K)/\W.cell? ⟨w1.heap.size,1,none⟩=some (.int .i64 V)/\W.cell? ⟨w1.heap.size,2,none⟩=some (.int .i64 (-1))/\W.cell? ⟨w1.heap.size,3,none⟩=some (.int .i64 0)/\W.cell? ⟨w1.heap.size,4,none⟩=some (.int .i64 D))
   (exact HX.out _ (by (repeat' (first|with_reducible exact fD _ _|with_reducible assumption|with_reducible refine aG ?_ _|with_reducible refine fH ?_))))
   (first
    | (refine iU _ (by rfl) _ _ (by rfl) s.heap.size (.slice (some ⟨_,0,none⟩) 0 0) [] (by rfl) (by (repeat' (first|with_reducible assumption|with_reducible exact bQ (dW _ rfl) (by (simp<;>omega))|with_reducible exact bQ (dW _ (by simp)) (by (simp<;>omega))|with_reducible refine i9 ?_|with_reducible refine iA ?_))) _ l (by rfl) (RW.out.keep (by (repeat' (first|with_reducible exact fD _ _|with_reducible assumption|with_reducible refine aG ?_ _|with_reducible refine fH ?_)))) (by simp;omega) (by (simp<;>omega)) ?_;intro v4 Z F x1;have I:gY s.heap.size s Z:=Below.aO (by (repeat' (first|with_reducible exact fD _ _|with_reducible assumption|with_reducible refine aG ?_ _|with_reducible refine fH ?_))) x1 (by (simp<;>omega)) (fun k e=>by simp[kX]at e;omega);have y0:aD Z s.heap.size v4 l:=F)
    | (refine nX _ (by rfl) _ _ (by rfl) s.heap.size v4 l (by rfl) (by (repeat' (first|with_reducible assumption|with_reducible exact bQ (dW _ rfl) (by (simp<;>omega))|with_reducible exact bQ (dW _ (by simp)) (by (simp<;>omega))|with_reducible refine i9 ?_|with_reducible refine iA ?_))) _ K V (-1) 0 D (by rfl) (by (repeat' (first|with_reducible exact Bk.new _ _ rfl|with_reducible exact Bk.new _ _ (by (simp<;>omega))|with_reducible refine Bk.drew ?_|with_reducible refine Bk.alloc ?_ _|with_reducible refine Bk.aO ?_ (by assumption) (fun k e=>by simp[kX]at e;omega)))) (by omega) (by have:=I.size;(simp<;>omega)) ?_;intro g9 y5 w9 M x0 z8;have H:gY s.heap.size s w9:=Below.aO (by (repeat' (first|with_reducible exact fD _ _|with_reducible assumption|with_reducible refine aG ?_ _|with_reducible refine fH ?_))) x0 (by have:=I.size;(simp<;>omega)) (oB F)))
  all_goals go_wp2_with fail
  all_goals go_ret
  all_goals exact⟨_,l++[(((K,V),((-1),0)),D)],rfl,by simp,mP (r:=(((K,V),((-1),0)),D)) (by simp) (DG (by omega)),bQ M (by omega),⟨(p1+1),by omega,by omega,b0.aX H⟩,w8.trans (Bx.aA H)⟩
 have e2:(k==2)=false:=by simpa using h2
 by_cases h3:k=3
 ·subst h3;have z6:=z7.aX (aG (fD _ _) (.cells #[.int .i64 (-100000),.int .i64 100000] 3));have t4:Bk (w3.alloc (.cells #[.int .i64 (-100000),.int .i64 100000] 3)) w3.heap.size #[.int .i64 (-100000),.int .i64 100000] 3:=Bk.new _ _ rfl;have b4:=b3.alloc (.cells #[.int .i64 (-100000),.int .i64 100000] 3);have x4:=x3.alloc (.cells #[.int .i64 (-100000),.int .i64 100000] 3);go_wp2_with fail;refine (pA z6 (by omega) (by omega) _ (by omega) (by omega)).mono ?_;rintro e w5 ⟨j,rfl,a6,a5,x8,x7⟩;have b5:=b4.aN x7 (by omega);have t5:=t4.aN x7 (by omega);have x5:=x4.trans x7;obtain⟨l0,l1,_,_⟩:=t5.two;obtain⟨U,T,S,R,O⟩:=b5.aa;have f5:=b5.free 4;clear z7 b3 x3 z6 t4 b4 x4 x7
  rcases (show j=0\/j=1 by omega) with rfl|rfl
  ·have b6:=b5.set 4 (.int .i64 (-100000));have y1:=x8.apart (q:=⟨w1.heap.size,4,none⟩) (by simp;omega) (by simp;omega) (.int .i64 (-100000));have Y:=x5.aC (p:=⟨w1.heap.size,4,none⟩) (by simp;omega) (.int .i64 (-100000))
   go_upto_region 12 with fail
   generalize (w5.setCell ⟨w1.heap.size,4,none⟩ (.int .i64 (-100000)))=s at*;have J:Bk s w1.heap.size #[.int .i64 K,.int .i64 V,.int .i64 A,.int .i64 G,.int .i64 (-100000)] 55:=b6;clear l0 l1 U T S R O f5 b5 t5 x8 x5 b6;obtain⟨U,T,S,R,O⟩:=J.aa;have RW:Hid (Rs s lv l):=HL.out _ Y;have HX:Hid (∀W,gY s.heap.size s W->W.cell? ⟨w1.heap.size,0,none⟩=some (.int .i64 K)/\W.cell? ⟨w1.heap.size,1,none⟩=some (.int .i64 V)/\W.cell? ⟨w1.heap.size,2,none⟩=some (.int .i64 A)/\W.cell? ⟨w1.heap.size,3,none⟩=some (.int .i64 G)/\W.cell? ⟨w1.heap.size,4,none⟩=some (.int .i64 (-100000))):=
    fun W hW=>(J.keep hW).aa
   have xs:=Y.size;clear U T S R O
   go_upto_region 12 with fail
   go_region_held3 (fun W=>W.cell? ⟨w1.heap.size,0,none⟩=some (.int .i64 K)/\W.cell? ⟨w1.heap.size,1,none⟩=some (.int .i64 V)/\W.cell? ⟨w1.heap.size,2,none⟩=some (.int .i64 A)/\W.cell? ⟨w1.heap.size,3,none⟩=some (.int .i64 G)/\W.cell? ⟨w1.heap.size,4,none⟩=some (.int .i64 (-100000)))
    (exact HX.out _ (by (repeat' (first|with_reducible exact fD _ _|with_reducible assumption|with_reducible refine aG ?_ _|with_reducible refine fH ?_))))
    (first
     | (refine iU _ (by rfl) _ _ (by rfl) s.heap.size (.slice (some ⟨_,0,none⟩) 0 0) [] (by rfl) (by (repeat' (first|with_reducible assumption|with_reducible exact bQ (dW _ rfl) (by (simp<;>omega))|with_reducible exact bQ (dW _ (by simp)) (by (simp<;>omega))|with_reducible refine i9 ?_|with_reducible refine iA ?_))) _ l (by rfl) (RW.out.keep (by (repeat' (first|with_reducible exact fD _ _|with_reducible assumption|with_reducible refine aG ?_ _|with_reducible refine fH ?_)))) (by simp;omega) (by (simp<;>omega)) ?_;intro v4 Z F x1;have I:gY s.heap.size s Z:=Below.aO (by (repeat' (first|with_reducible exact fD _ _|with_reducible assumption|with_reducible refine aG ?_ _|with_reducible refine fH ?_))) x1 (by (simp<;>omega)) (fun k e=>by simp[kX]at e;omega);have y0:aD Z s.heap.size v4 l:=F)
     | (refine nX _ (by rfl) _ _ (by rfl) s.heap.size v4 l (by rfl) (by (repeat' (first|with_reducible assumption|with_reducible exact bQ (dW _ rfl) (by (simp<;>omega))|with_reducible exact bQ (dW _ (by simp)) (by (simp<;>omega))|with_reducible refine i9 ?_|with_reducible refine iA ?_))) _ K V A G (-100000) (by rfl) (by (repeat' (first|with_reducible exact Bk.new _ _ rfl|with_reducible exact Bk.new _ _ (by (simp<;>omega))|with_reducible refine Bk.drew ?_|with_reducible refine Bk.alloc ?_ _|with_reducible refine Bk.aO ?_ (by assumption) (fun k e=>by simp[kX]at e;omega)))) (by omega) (by have:=I.size;(simp<;>omega)) ?_;intro g9 y5 w9 M x0 z8;have H:gY s.heap.size s w9:=Below.aO (by (repeat' (first|with_reducible exact fD _ _|with_reducible assumption|with_reducible refine aG ?_ _|with_reducible refine fH ?_))) x0 (by have:=I.size;(simp<;>omega)) (oB F)))
   all_goals go_wp2_with fail
   all_goals go_ret
   all_goals exact⟨_,l++[(((K,V),(A,G)),(-100000))],rfl,by simp,mP (r:=(((K,V),(A,G)),(-100000))) (by simp) (EG (by omega)),bQ M (by omega),⟨(p1+1+1),by omega,by omega,y1.aX H⟩,Y.trans (Bx.aA H)⟩
  ·have b6:=b5.set 4 (.int .i64 (100000));have y1:=x8.apart (q:=⟨w1.heap.size,4,none⟩) (by simp;omega) (by simp;omega) (.int .i64 (100000));have Y:=x5.aC (p:=⟨w1.heap.size,4,none⟩) (by simp;omega) (.int .i64 (100000))
   go_upto_region 12 with fail
   generalize (w5.setCell ⟨w1.heap.size,4,none⟩ (.int .i64 (100000)))=s at*;have J:Bk s w1.heap.size #[.int .i64 K,.int .i64 V,.int .i64 A,.int .i64 G,.int .i64 (100000)] 55:=b6;clear l0 l1 U T S R O f5 b5 t5 x8 x5 b6;obtain⟨U,T,S,R,O⟩:=J.aa;have RW:Hid (Rs s lv l):=HL.out _ Y;have HX:Hid (∀W,gY s.heap.size s W->W.cell? ⟨w1.heap.size,0,none⟩=some (.int .i64 K)/\W.cell? ⟨w1.heap.size,1,none⟩=some (.int .i64 V)/\W.cell? ⟨w1.heap.size,2,none⟩=some (.int .i64 A)/\W.cell? ⟨w1.heap.size,3,none⟩=some (.int .i64 G)/\W.cell? ⟨w1.heap.size,4,none⟩=some (.int .i64 (100000))):=
    fun W hW=>(J.keep hW).aa
   have xs:=Y.size;clear U T S R O
   go_upto_region 12 with fail
   go_region_held3 (fun W=>W.cell? ⟨w1.heap.size,0,none⟩=some (.int .i64 K)/\W.cell? ⟨w1.heap.size,1,none⟩=some (.int .i64 V)/\W.cell? ⟨w1.heap.size,2,none⟩=some (.int .i64 A)/\W.cell? ⟨w1.heap.size,3,none⟩=some (.int .i64 G)/\W.cell? ⟨w1.heap.size,4,none⟩=some (.int .i64 (100000)))
    (exact HX.out _ (by (repeat' (first|with_reducible exact fD _ _|with_reducible assumption|with_reducible refine aG ?_ _|with_reducible refine fH ?_))))
    (first
     | (refine iU _ (by rfl) _ _ (by rfl) s.heap.size (.slice (some ⟨_,0,none⟩) 0 0) [] (by rfl) (by (repeat' (first|with_reducible assumption|with_reducible exact bQ (dW _ rfl) (by (simp<;>omega))|with_reducible exact bQ (dW _ (by simp)) (by (simp<;>omega))|with_reducible refine i9 ?_|with_reducible refine iA ?_))) _ l (by rfl) (RW.out.keep (by (repeat' (first|with_reducible exact fD _ _|with_reducible assumption|with_reducible refine aG ?_ _|with_reducible refine fH ?_)))) (by simp;omega) (by (simp<;>omega)) ?_;intro v4 Z F x1;have I:gY s.heap.size s Z:=Below.aO (by (repeat' (first|with_reducible exact fD _ _|with_reducible assumption|with_reducible refine aG ?_ _|with_reducible refine fH ?_))) x1 (by (simp<;>omega)) (fun k e=>by simp[kX]at e;omega);have y0:aD Z s.heap.size v4 l:=F)
     | (refine nX _ (by rfl) _ _ (by rfl) s.heap.size v4 l (by rfl) (by (repeat' (first|with_reducible assumption|with_reducible exact bQ (dW _ rfl) (by (simp<;>omega))|with_reducible exact bQ (dW _ (by simp)) (by (simp<;>omega))|with_reducible refine i9 ?_|with_reducible refine iA ?_))) _ K V A G (100000) (by rfl) (by (repeat' (first|with_reducible exact Bk.new _ _ rfl|with_reducible exact Bk.new _ _ (by (simp<;>omega))|with_reducible refine Bk.drew ?_|with_reducible refine Bk.alloc ?_ _|with_reducible refine Bk.aO ?_ (by assumption) (fun k e=>by simp[kX]at e;omega)))) (by omega) (by have:=I.size;(simp<;>omega)) ?_;intro g9 y5 w9 M x0 z8;have H:gY s.heap.size s w9:=Below.aO (by (repeat' (first|with_reducible exact fD _ _|with_reducible assumption|with_reducible refine aG ?_ _|with_reducible refine fH ?_))) x0 (by have:=I.size;(simp<;>omega)) (oB F)))
   all_goals go_wp2_with fail
   all_goals go_ret
   all_goals exact⟨_,l++[(((K,V),(A,G)),(100000))],rfl,by simp,mP (r:=(((K,V),(A,G)),(100000))) (by simp) (EG (by omega)),bQ M (by omega),⟨(p1+1+1),by omega,by omega,y1.aX H⟩,Y.trans (Bx.aA H)⟩
 have e3:(k==3)=false:=by simpa using h3
 obtain⟨U,T,S,R,O⟩:=b3.aa;have c0:=b3.free 3;have v6:=b3.set 3 (.int .i64 (8));have v9:=z7.apart (q:=⟨w1.heap.size,3,none⟩) (by simp;omega) (by simp;omega) (.int .i64 (8));have z9:=x3.aC (p:=⟨w1.heap.size,3,none⟩) (by simp;omega) (.int .i64 (8))
 go_upto_region 12 with fail
 generalize (w3.setCell ⟨w1.heap.size,3,none⟩ (.int .i64 (8)))=s at*;have J:Bk s w1.heap.size #[.int .i64 K,.int .i64 V,.int .i64 A,.int .i64 8,.int .i64 D] 55:=v6;clear U T S R O;obtain⟨U,T,S,R,O⟩:=J.aa;have RW:Hid (Rs s lv l):=HL.out _ z9;have HX:Hid (∀W,gY s.heap.size s W->W.cell? ⟨w1.heap.size,0,none⟩=some (.int .i64 K)/\W.cell? ⟨w1.heap.size,1,none⟩=some (.int .i64 V)/\W.cell? ⟨w1.heap.size,2,none⟩=some (.int .i64 A)/\W.cell? ⟨w1.heap.size,3,none⟩=some (.int .i64 8)/\W.cell? ⟨w1.heap.size,4,none⟩=some (.int .i64 D)):=
  fun W hW=>(J.keep hW).aa
 have xs:=z9.size;clear U T S R O
 go_upto_region 12 with fail
 go_region_held3 (fun W=>W.cell? ⟨w1.heap.size,0,none⟩=some (.int .i64 K)/\W.cell? ⟨w1.heap.size,1,none⟩=some (.int .i64 V)/\W.cell? ⟨w1.heap.size,2,none⟩=some (.int .i64 A)/\W.cell? ⟨w1.heap.size,3,none⟩=some (.int .i64 8)/\W.cell? ⟨w1.heap.size,4,none⟩=some (.int .i64 D))
  (exact HX.out _ (by (repeat' (first|with_reducible exact fD _ _|with_reducible assumption|with_reducible refine aG ?_ _|with_reducible refine fH ?_))))
  (first
   | (refine iU _ (by rfl) _ _ (by rfl) s.heap.size (.slice (some ⟨_,0,none⟩) 0 0) [] (by rfl) (by (repeat' (first|with_reducible assumption|with_reducible exact bQ (dW _ rfl) (by (simp<;>omega))|with_reducible exact bQ (dW _ (by simp)) (by (simp<;>omega))|with_reducible refine i9 ?_|with_reducible refine iA ?_))) _ l (by rfl) (RW.out.keep (by (repeat' (first|with_reducible exact fD _ _|with_reducible assumption|with_reducible refine aG ?_ _|with_reducible refine fH ?_)))) (by simp;omega) (by (simp<;>omega)) ?_;intro v4 Z F x1;have I:gY s.heap.size s Z:=Below.aO (by (repeat' (first|with_reducible exact fD _ _|with_reducible assumption|with_reducible refine aG ?_ _|with_reducible refine fH ?_))) x1 (by (simp<;>omega)) (fun k e=>by simp[kX]at e;omega);have y0:aD Z s.heap.size v4 l:=F)
   | (refine nX _ (by rfl) _ _ (by rfl) s.heap.size v4 l (by rfl) (by (repeat' (first|with_reducible assumption|with_reducible exact bQ (dW _ rfl) (by (simp<;>omega))|with_reducible exact bQ (dW _ (by simp)) (by (simp<;>omega))|with_reducible refine i9 ?_|with_reducible refine iA ?_))) _ K V A 8 D (by rfl) (by (repeat' (first|with_reducible exact Bk.new _ _ rfl|with_reducible exact Bk.new _ _ (by (simp<;>omega))|with_reducible refine Bk.drew ?_|with_reducible refine Bk.alloc ?_ _|with_reducible refine Bk.aO ?_ (by assumption) (fun k e=>by simp[kX]at e;omega)))) (by omega) (by have:=I.size;(simp<;>omega)) ?_;intro g9 y5 w9 M x0 z8;have H:gY s.heap.size s w9:=Below.aO (by (repeat' (first|with_reducible exact fD _ _|with_reducible assumption|with_reducible refine aG ?_ _|with_reducible refine fH ?_))) x0 (by have:=I.size;(simp<;>omega)) (oB F)))
 all_goals go_wp2_with fail
 all_goals go_ret
 all_goals exact⟨_,l++[(((K,V),(A,8)),D)],rfl,by simp,mP (r:=(((K,V),(A,8)),D)) (by simp) (DG (by omega)),bQ M (by omega),⟨(p1+1),by omega,by omega,v9.aX H⟩,z9.trans (Bx.aA H)⟩
end Go.Proofs.YtbdpcngcbnoioaaGreatDoor
