import Derived.Test.YtbdpcngcbnoioaaGreatDoorGs7
set_option maxRecDepth 100000
set_option maxHeartbeats 8000000
namespace Go.Proofs.YtbdpcngcbnoioaaGreatDoor
open Go.RowKit
def smR (r:Rw):Prop:=rwOkB r=true /\ -3<=r.2/\r.2<=3
theorem smR_mk {K V A B D:Int} (h1:0<=K) (h2:K<=3) (h3:0<=V) (h4:V<=99) (h5:0<=A) (h6:A<=7) (h7:0<=B) (h8:B<=7) (h9 : -3<=D) (h10:D<=3):smR (((K,V),(A,B)),D):=by
 refine ⟨?_,h9,h10⟩;simp only [rwOkB,okB,inB];simp;omega
abbrev valsA:Array Value:=#[.int .i64 0, .int .i64 1, .int .i64 2, .int .i64 3, .int .i64 4, .int .i64 9, .int .i64 10, .int .i64 57, .int .i64 99]
abbrev diffsA:Array Value:=#[.int .i64 1, .int .i64 1, .int .i64 1, .int .i64 2, .int .i64 (-1), .int .i64 (-1), .int .i64 3, .int .i64 0]
theorem vals_at {j:Nat} (h:j<9):∃ V:Int,valsA[j]?=some (.int .i64 V)/\0<=V/\V<=99:=by
 obtain rfl|rfl|rfl|rfl|rfl|rfl|rfl|rfl|rfl:j=0\/j=1\/j=2\/j=3\/j=4\/j=5\/j=6\/j=7\/j=8:=by omega
 all_goals exact ⟨_,rfl,by omega,by omega⟩
theorem diffs_at {j:Nat} (h:j<8):∃ V:Int,diffsA[j]?=some (.int .i64 V) /\ -3<=V/\V<=3:=by
 obtain rfl|rfl|rfl|rfl|rfl|rfl|rfl|rfl:j=0\/j=1\/j=2\/j=3\/j=4\/j=5\/j=6\/j=7:=by omega
 all_goals exact ⟨_,rfl,by omega,by omega⟩
structure RowS (g N:Nat) (L:Array Bool) (W:World) (t3 t4 t5 t6 t7 t8 t9 t10 t11 t12 t13 t14 t15 t16 t17:Value):Prop where
 s0:L.getD 0 false=true->t3= .pointer (some ⟨g,0,none⟩)
 s1:L.getD 1 false=true->∃ K:Int,0<=K/\K<=3/\t4= .int .i64 K
 s2:L.getD 2 false=true->∃ b:Nat,N<=b/\b≠g/\Bk W b valsA 3/\t5= .slice (some ⟨b,0,none⟩) 9 9
 s3:L.getD 3 false=true->t6= .pointer (some ⟨g,0,none⟩)
 s4:L.getD 4 false=true->∃ j:Nat,j<9/\t7= .int .i64 j
 s5:L.getD 5 false=true->∃ b j:Nat,N<=b/\b≠g/\j<9/\Bk W b valsA 3/\t8= .pointer (some ⟨b,j,none⟩)
 s6:L.getD 6 false=true->∃ V:Int,0<=V/\V<=99/\t9= .int .i64 V
 s7:L.getD 7 false=true->t10= .pointer (some ⟨g,0,none⟩)
 s8:L.getD 8 false=true->∃ A B:Int,0<=A/\A<=7/\0<=B/\B<=7/\t11=tv A B
 s9:L.getD 9 false=true->∃ b:Nat,N<=b/\b≠g/\Bk W b diffsA 3/\t12= .slice (some ⟨b,0,none⟩) 8 8
 s10:L.getD 10 false=true->t13= .pointer (some ⟨g,0,none⟩)
 s11:L.getD 11 false=true->∃ j:Nat,j<8/\t14= .int .i64 j
 s12:L.getD 12 false=true->∃ b j:Nat,N<=b/\b≠g/\j<8/\Bk W b diffsA 3/\t15= .pointer (some ⟨b,j,none⟩)
 s13:L.getD 13 false=true->∃ D:Int,-3<=D/\D<=3/\t16= .int .i64 D
 s14:L.getD 14 false=true->∃ K V A B D:Int,smR (((K,V),(A,B)),D)/\t17=rv K V A B D
variable {g N:Nat} {L:Array Bool} {W W':World} {t3 t4 t5 t6 t7 t8 t9 t10 t11 t12 t13 t14 t15 t16 t17:Value}
theorem RowS.keep (h:RowS g N L W t3 t4 t5 t6 t7 t8 t9 t10 t11 t12 t13 t14 t15 t16 t17) (hx:Bx g W W'):RowS g N L W' t3 t4 t5 t6 t7 t8 t9 t10 t11 t12 t13 t14 t15 t16 t17 where
 s0:=h.s0
 s1:=h.s1
 s2:=fun e=>by obtain ⟨b,h1,h2,h3,h4⟩:=h.s2 e;exact ⟨b,h1,h2,h3.keepx hx h2,h4⟩
 s3:=h.s3
 s4:=h.s4
 s5:=fun e=>by obtain ⟨b,j,h1,h2,h3,h4,h5⟩:=h.s5 e;exact ⟨b,j,h1,h2,h3,h4.keepx hx h2,h5⟩
 s6:=h.s6
 s7:=h.s7
 s8:=h.s8
 s9:=fun e=>by obtain ⟨b,h1,h2,h3,h4⟩:=h.s9 e;exact ⟨b,h1,h2,h3.keepx hx h2,h4⟩
 s10:=h.s10
 s11:=h.s11
 s12:=fun e=>by obtain ⟨b,j,h1,h2,h3,h4,h5⟩:=h.s12 e;exact ⟨b,j,h1,h2,h3,h4.keepx hx h2,h5⟩
 s13:=h.s13
 s14:=h.s14
theorem getD_set {L:Array Bool} {i j:Nat} (h:i≠j) (e:(L.setIfInBounds i true).getD j false=true):L.getD j false=true:=by
 simp only [Array.getD_eq_getD_getElem?,Array.getElem?_setIfInBounds] at e ⊢;rw [if_neg h] at e;exact e
theorem gS {L:Array Bool} {i j:Nat} (e:(L.setIfInBounds i true).getD j false=true) (h:i≠j:=by decide):L.getD j false=true:=getD_set h e
theorem RowS.put0 {u:Value} (h:RowS g N L W t3 t4 t5 t6 t7 t8 t9 t10 t11 t12 t13 t14 t15 t16 t17) (hu:u= .pointer (some ⟨g,0,none⟩)):RowS g N (L.setIfInBounds 0 true) W u t4 t5 t6 t7 t8 t9 t10 t11 t12 t13 t14 t15 t16 t17 where
 s0:=fun _=>hu
 s1:=fun e=>h.s1 (gS e)
 s2:=fun e=>h.s2 (gS e)
 s3:=fun e=>h.s3 (gS e)
 s4:=fun e=>h.s4 (gS e)
 s5:=fun e=>h.s5 (gS e)
 s6:=fun e=>h.s6 (gS e)
 s7:=fun e=>h.s7 (gS e)
 s8:=fun e=>h.s8 (gS e)
 s9:=fun e=>h.s9 (gS e)
 s10:=fun e=>h.s10 (gS e)
 s11:=fun e=>h.s11 (gS e)
 s12:=fun e=>h.s12 (gS e)
 s13:=fun e=>h.s13 (gS e)
 s14:=fun e=>h.s14 (gS e)
theorem RowS.put1 {u:Value} (h:RowS g N L W t3 t4 t5 t6 t7 t8 t9 t10 t11 t12 t13 t14 t15 t16 t17) (hu:∃ K:Int,0<=K/\K<=3/\u= .int .i64 K):RowS g N (L.setIfInBounds 1 true) W t3 u t5 t6 t7 t8 t9 t10 t11 t12 t13 t14 t15 t16 t17 where
 s0:=fun e=>h.s0 (gS e)
 s1:=fun _=>hu
 s2:=fun e=>h.s2 (gS e)
 s3:=fun e=>h.s3 (gS e)
 s4:=fun e=>h.s4 (gS e)
 s5:=fun e=>h.s5 (gS e)
 s6:=fun e=>h.s6 (gS e)
 s7:=fun e=>h.s7 (gS e)
 s8:=fun e=>h.s8 (gS e)
 s9:=fun e=>h.s9 (gS e)
 s10:=fun e=>h.s10 (gS e)
 s11:=fun e=>h.s11 (gS e)
 s12:=fun e=>h.s12 (gS e)
 s13:=fun e=>h.s13 (gS e)
 s14:=fun e=>h.s14 (gS e)
theorem RowS.put2 {u:Value} (h:RowS g N L W t3 t4 t5 t6 t7 t8 t9 t10 t11 t12 t13 t14 t15 t16 t17) (hu:∃ b:Nat,N<=b/\b≠g/\Bk W b valsA 3/\u= .slice (some ⟨b,0,none⟩) 9 9):RowS g N (L.setIfInBounds 2 true) W t3 t4 u t6 t7 t8 t9 t10 t11 t12 t13 t14 t15 t16 t17 where
 s0:=fun e=>h.s0 (gS e)
 s1:=fun e=>h.s1 (gS e)
 s2:=fun _=>hu
 s3:=fun e=>h.s3 (gS e)
 s4:=fun e=>h.s4 (gS e)
 s5:=fun e=>h.s5 (gS e)
 s6:=fun e=>h.s6 (gS e)
 s7:=fun e=>h.s7 (gS e)
 s8:=fun e=>h.s8 (gS e)
 s9:=fun e=>h.s9 (gS e)
 s10:=fun e=>h.s10 (gS e)
 s11:=fun e=>h.s11 (gS e)
 s12:=fun e=>h.s12 (gS e)
 s13:=fun e=>h.s13 (gS e)
 s14:=fun e=>h.s14 (gS e)
theorem RowS.put3 {u:Value} (h:RowS g N L W t3 t4 t5 t6 t7 t8 t9 t10 t11 t12 t13 t14 t15 t16 t17) (hu:u= .pointer (some ⟨g,0,none⟩)):RowS g N (L.setIfInBounds 3 true) W t3 t4 t5 u t7 t8 t9 t10 t11 t12 t13 t14 t15 t16 t17 where
 s0:=fun e=>h.s0 (gS e)
 s1:=fun e=>h.s1 (gS e)
 s2:=fun e=>h.s2 (gS e)
 s3:=fun _=>hu
 s4:=fun e=>h.s4 (gS e)
 s5:=fun e=>h.s5 (gS e)
 s6:=fun e=>h.s6 (gS e)
 s7:=fun e=>h.s7 (gS e)
 s8:=fun e=>h.s8 (gS e)
 s9:=fun e=>h.s9 (gS e)
 s10:=fun e=>h.s10 (gS e)
 s11:=fun e=>h.s11 (gS e)
 s12:=fun e=>h.s12 (gS e)
 s13:=fun e=>h.s13 (gS e)
 s14:=fun e=>h.s14 (gS e)
theorem RowS.put4 {u:Value} (h:RowS g N L W t3 t4 t5 t6 t7 t8 t9 t10 t11 t12 t13 t14 t15 t16 t17) (hu:∃ j:Nat,j<9/\u= .int .i64 j):RowS g N (L.setIfInBounds 4 true) W t3 t4 t5 t6 u t8 t9 t10 t11 t12 t13 t14 t15 t16 t17 where
 s0:=fun e=>h.s0 (gS e)
 s1:=fun e=>h.s1 (gS e)
 s2:=fun e=>h.s2 (gS e)
 s3:=fun e=>h.s3 (gS e)
 s4:=fun _=>hu
 s5:=fun e=>h.s5 (gS e)
 s6:=fun e=>h.s6 (gS e)
 s7:=fun e=>h.s7 (gS e)
 s8:=fun e=>h.s8 (gS e)
 s9:=fun e=>h.s9 (gS e)
 s10:=fun e=>h.s10 (gS e)
 s11:=fun e=>h.s11 (gS e)
 s12:=fun e=>h.s12 (gS e)
 s13:=fun e=>h.s13 (gS e)
 s14:=fun e=>h.s14 (gS e)
theorem RowS.put5 {u:Value} (h:RowS g N L W t3 t4 t5 t6 t7 t8 t9 t10 t11 t12 t13 t14 t15 t16 t17) (hu:∃ b j:Nat,N<=b/\b≠g/\j<9/\Bk W b valsA 3/\u= .pointer (some ⟨b,j,none⟩)):RowS g N (L.setIfInBounds 5 true) W t3 t4 t5 t6 t7 u t9 t10 t11 t12 t13 t14 t15 t16 t17 where
 s0:=fun e=>h.s0 (gS e)
 s1:=fun e=>h.s1 (gS e)
 s2:=fun e=>h.s2 (gS e)
 s3:=fun e=>h.s3 (gS e)
 s4:=fun e=>h.s4 (gS e)
 s5:=fun _=>hu
 s6:=fun e=>h.s6 (gS e)
 s7:=fun e=>h.s7 (gS e)
 s8:=fun e=>h.s8 (gS e)
 s9:=fun e=>h.s9 (gS e)
 s10:=fun e=>h.s10 (gS e)
 s11:=fun e=>h.s11 (gS e)
 s12:=fun e=>h.s12 (gS e)
 s13:=fun e=>h.s13 (gS e)
 s14:=fun e=>h.s14 (gS e)
theorem RowS.put6 {u:Value} (h:RowS g N L W t3 t4 t5 t6 t7 t8 t9 t10 t11 t12 t13 t14 t15 t16 t17) (hu:∃ V:Int,0<=V/\V<=99/\u= .int .i64 V):RowS g N (L.setIfInBounds 6 true) W t3 t4 t5 t6 t7 t8 u t10 t11 t12 t13 t14 t15 t16 t17 where
 s0:=fun e=>h.s0 (gS e)
 s1:=fun e=>h.s1 (gS e)
 s2:=fun e=>h.s2 (gS e)
 s3:=fun e=>h.s3 (gS e)
 s4:=fun e=>h.s4 (gS e)
 s5:=fun e=>h.s5 (gS e)
 s6:=fun _=>hu
 s7:=fun e=>h.s7 (gS e)
 s8:=fun e=>h.s8 (gS e)
 s9:=fun e=>h.s9 (gS e)
 s10:=fun e=>h.s10 (gS e)
 s11:=fun e=>h.s11 (gS e)
 s12:=fun e=>h.s12 (gS e)
 s13:=fun e=>h.s13 (gS e)
 s14:=fun e=>h.s14 (gS e)
theorem RowS.put7 {u:Value} (h:RowS g N L W t3 t4 t5 t6 t7 t8 t9 t10 t11 t12 t13 t14 t15 t16 t17) (hu:u= .pointer (some ⟨g,0,none⟩)):RowS g N (L.setIfInBounds 7 true) W t3 t4 t5 t6 t7 t8 t9 u t11 t12 t13 t14 t15 t16 t17 where
 s0:=fun e=>h.s0 (gS e)
 s1:=fun e=>h.s1 (gS e)
 s2:=fun e=>h.s2 (gS e)
 s3:=fun e=>h.s3 (gS e)
 s4:=fun e=>h.s4 (gS e)
 s5:=fun e=>h.s5 (gS e)
 s6:=fun e=>h.s6 (gS e)
 s7:=fun _=>hu
 s8:=fun e=>h.s8 (gS e)
 s9:=fun e=>h.s9 (gS e)
 s10:=fun e=>h.s10 (gS e)
 s11:=fun e=>h.s11 (gS e)
 s12:=fun e=>h.s12 (gS e)
 s13:=fun e=>h.s13 (gS e)
 s14:=fun e=>h.s14 (gS e)
theorem RowS.put8 {u:Value} (h:RowS g N L W t3 t4 t5 t6 t7 t8 t9 t10 t11 t12 t13 t14 t15 t16 t17) (hu:∃ A B:Int,0<=A/\A<=7/\0<=B/\B<=7/\u=tv A B):RowS g N (L.setIfInBounds 8 true) W t3 t4 t5 t6 t7 t8 t9 t10 u t12 t13 t14 t15 t16 t17 where
 s0:=fun e=>h.s0 (gS e)
 s1:=fun e=>h.s1 (gS e)
 s2:=fun e=>h.s2 (gS e)
 s3:=fun e=>h.s3 (gS e)
 s4:=fun e=>h.s4 (gS e)
 s5:=fun e=>h.s5 (gS e)
 s6:=fun e=>h.s6 (gS e)
 s7:=fun e=>h.s7 (gS e)
 s8:=fun _=>hu
 s9:=fun e=>h.s9 (gS e)
 s10:=fun e=>h.s10 (gS e)
 s11:=fun e=>h.s11 (gS e)
 s12:=fun e=>h.s12 (gS e)
 s13:=fun e=>h.s13 (gS e)
 s14:=fun e=>h.s14 (gS e)
theorem RowS.put9 {u:Value} (h:RowS g N L W t3 t4 t5 t6 t7 t8 t9 t10 t11 t12 t13 t14 t15 t16 t17) (hu:∃ b:Nat,N<=b/\b≠g/\Bk W b diffsA 3/\u= .slice (some ⟨b,0,none⟩) 8 8):RowS g N (L.setIfInBounds 9 true) W t3 t4 t5 t6 t7 t8 t9 t10 t11 u t13 t14 t15 t16 t17 where
 s0:=fun e=>h.s0 (gS e)
 s1:=fun e=>h.s1 (gS e)
 s2:=fun e=>h.s2 (gS e)
 s3:=fun e=>h.s3 (gS e)
 s4:=fun e=>h.s4 (gS e)
 s5:=fun e=>h.s5 (gS e)
 s6:=fun e=>h.s6 (gS e)
 s7:=fun e=>h.s7 (gS e)
 s8:=fun e=>h.s8 (gS e)
 s9:=fun _=>hu
 s10:=fun e=>h.s10 (gS e)
 s11:=fun e=>h.s11 (gS e)
 s12:=fun e=>h.s12 (gS e)
 s13:=fun e=>h.s13 (gS e)
 s14:=fun e=>h.s14 (gS e)
theorem RowS.put10 {u:Value} (h:RowS g N L W t3 t4 t5 t6 t7 t8 t9 t10 t11 t12 t13 t14 t15 t16 t17) (hu:u= .pointer (some ⟨g,0,none⟩)):RowS g N (L.setIfInBounds 10 true) W t3 t4 t5 t6 t7 t8 t9 t10 t11 t12 u t14 t15 t16 t17 where
 s0:=fun e=>h.s0 (gS e)
 s1:=fun e=>h.s1 (gS e)
 s2:=fun e=>h.s2 (gS e)
 s3:=fun e=>h.s3 (gS e)
 s4:=fun e=>h.s4 (gS e)
 s5:=fun e=>h.s5 (gS e)
 s6:=fun e=>h.s6 (gS e)
 s7:=fun e=>h.s7 (gS e)
 s8:=fun e=>h.s8 (gS e)
 s9:=fun e=>h.s9 (gS e)
 s10:=fun _=>hu
 s11:=fun e=>h.s11 (gS e)
 s12:=fun e=>h.s12 (gS e)
 s13:=fun e=>h.s13 (gS e)
 s14:=fun e=>h.s14 (gS e)
theorem RowS.put11 {u:Value} (h:RowS g N L W t3 t4 t5 t6 t7 t8 t9 t10 t11 t12 t13 t14 t15 t16 t17) (hu:∃ j:Nat,j<8/\u= .int .i64 j):RowS g N (L.setIfInBounds 11 true) W t3 t4 t5 t6 t7 t8 t9 t10 t11 t12 t13 u t15 t16 t17 where
 s0:=fun e=>h.s0 (gS e)
 s1:=fun e=>h.s1 (gS e)
 s2:=fun e=>h.s2 (gS e)
 s3:=fun e=>h.s3 (gS e)
 s4:=fun e=>h.s4 (gS e)
 s5:=fun e=>h.s5 (gS e)
 s6:=fun e=>h.s6 (gS e)
 s7:=fun e=>h.s7 (gS e)
 s8:=fun e=>h.s8 (gS e)
 s9:=fun e=>h.s9 (gS e)
 s10:=fun e=>h.s10 (gS e)
 s11:=fun _=>hu
 s12:=fun e=>h.s12 (gS e)
 s13:=fun e=>h.s13 (gS e)
 s14:=fun e=>h.s14 (gS e)
theorem RowS.put12 {u:Value} (h:RowS g N L W t3 t4 t5 t6 t7 t8 t9 t10 t11 t12 t13 t14 t15 t16 t17) (hu:∃ b j:Nat,N<=b/\b≠g/\j<8/\Bk W b diffsA 3/\u= .pointer (some ⟨b,j,none⟩)):RowS g N (L.setIfInBounds 12 true) W t3 t4 t5 t6 t7 t8 t9 t10 t11 t12 t13 t14 u t16 t17 where
 s0:=fun e=>h.s0 (gS e)
 s1:=fun e=>h.s1 (gS e)
 s2:=fun e=>h.s2 (gS e)
 s3:=fun e=>h.s3 (gS e)
 s4:=fun e=>h.s4 (gS e)
 s5:=fun e=>h.s5 (gS e)
 s6:=fun e=>h.s6 (gS e)
 s7:=fun e=>h.s7 (gS e)
 s8:=fun e=>h.s8 (gS e)
 s9:=fun e=>h.s9 (gS e)
 s10:=fun e=>h.s10 (gS e)
 s11:=fun e=>h.s11 (gS e)
 s12:=fun _=>hu
 s13:=fun e=>h.s13 (gS e)
 s14:=fun e=>h.s14 (gS e)
theorem RowS.put13 {u:Value} (h:RowS g N L W t3 t4 t5 t6 t7 t8 t9 t10 t11 t12 t13 t14 t15 t16 t17) (hu:∃ D:Int,-3<=D/\D<=3/\u= .int .i64 D):RowS g N (L.setIfInBounds 13 true) W t3 t4 t5 t6 t7 t8 t9 t10 t11 t12 t13 t14 t15 u t17 where
 s0:=fun e=>h.s0 (gS e)
 s1:=fun e=>h.s1 (gS e)
 s2:=fun e=>h.s2 (gS e)
 s3:=fun e=>h.s3 (gS e)
 s4:=fun e=>h.s4 (gS e)
 s5:=fun e=>h.s5 (gS e)
 s6:=fun e=>h.s6 (gS e)
 s7:=fun e=>h.s7 (gS e)
 s8:=fun e=>h.s8 (gS e)
 s9:=fun e=>h.s9 (gS e)
 s10:=fun e=>h.s10 (gS e)
 s11:=fun e=>h.s11 (gS e)
 s12:=fun e=>h.s12 (gS e)
 s13:=fun _=>hu
 s14:=fun e=>h.s14 (gS e)
theorem RowS.put14 {u:Value} (h:RowS g N L W t3 t4 t5 t6 t7 t8 t9 t10 t11 t12 t13 t14 t15 t16 t17) (hu:∃ K V A B D:Int,smR (((K,V),(A,B)),D)/\u=rv K V A B D):RowS g N (L.setIfInBounds 14 true) W t3 t4 t5 t6 t7 t8 t9 t10 t11 t12 t13 t14 t15 t16 u where
 s0:=fun e=>h.s0 (gS e)
 s1:=fun e=>h.s1 (gS e)
 s2:=fun e=>h.s2 (gS e)
 s3:=fun e=>h.s3 (gS e)
 s4:=fun e=>h.s4 (gS e)
 s5:=fun e=>h.s5 (gS e)
 s6:=fun e=>h.s6 (gS e)
 s7:=fun e=>h.s7 (gS e)
 s8:=fun e=>h.s8 (gS e)
 s9:=fun e=>h.s9 (gS e)
 s10:=fun e=>h.s10 (gS e)
 s11:=fun e=>h.s11 (gS e)
 s12:=fun e=>h.s12 (gS e)
 s13:=fun e=>h.s13 (gS e)
 s14:=fun _=>hu
end Go.Proofs.YtbdpcngcbnoioaaGreatDoor
namespace Go.Proofs.YtbdpcngcbnoioaaGreatDoor
open Go.RowKit
abbrev zero5:Array Value:=#[.int .i64 0, .int .i64 0, .int .i64 0, .int .i64 0, .int .i64 0]
def RowI (g N res B n:Nat) (v:Value) (p:Int) (w0:World) (L:Array Bool) (a:Act) (W:World):Prop :=
 L.size=16/\(∃ p':Int,p<=p'/\p'+3*(unN L:Int)<=p+48/\Rd B W g v n p')/\Bx g w0 W/\N<=W.heap.size/\∃ t1 t3 t4 t5 t6 t7 t8 t9 t10 t11 t12 t13 t14 t15 t16 t17:Value,
  a={ tmps:=#[.pointer (some ⟨g,0,none⟩),t1, .pointer (some ⟨res,0,none⟩),t3,t4,t5,t6,t7,t8,t9,t10,t11,t12,t13,t14,t15,t16,t17],defers:=[] } /\
  RowS g N L W t3 t4 t5 t6 t7 t8 t9 t10 t11 t12 t13 t14 t15 t16 t17/\(L.getD 15 true=false->Bk W res zero5 55)/\(L.getD 15 false=true->∃ K V A B' D:Int,smR (((K,V),(A,B')),D)/\Bk W res #[.int .i64 K, .int .i64 V, .int .i64 A, .int .i64 B', .int .i64 D] 55)
theorem unN_at {L:Array Bool} {i:Nat} (hs:L.size=16) (hi:i<16) (h:L.getD i true=false):unN (L.setIfInBounds i true)+1=unN L:=unN_set (by
 rw [Array.getElem?_eq_getElem (by omega)];simp [hs,hi] at h;rw [h])
theorem all_listed {ops:Array Oper} {L:Array Bool} (hs:L.size=ops.size) (hl:∀ (i:Nat) (o:Oper),ops[i]?=some o->∀ e∈o.after,e.on<i) (hr:Region.ready .any ops L=[]):∀ j,j<ops.size->L.getD j false=true:=by
 intro j
 induction j using Nat.strongRecOn with
 | _ j ih =>
  intro hj;cases e:L.getD j false
  ·exfalso
   have hm:j∈Region.ready .any ops L:=mem_ready.2 ⟨by
    simp only [Array.getD_eq_getD_getElem?,Array.getElem?_eq_getElem (show j<L.size by omega)] at e ⊢;exact e,ops[j],Array.getElem?_eq_getElem hj,fun x hx _=>ih x.on (hl j _ (Array.getElem?_eq_getElem hj) x hx) (by have:=hl j _ (Array.getElem?_eq_getElem hj) x hx;omega)⟩
   rw [hr] at hm;cases hm
  ·rfl
theorem RowS.last {g N:Nat} {L:Array Bool} {W W':World} {t3 t4 t5 t6 t7 t8 t9 t10 t11 t12 t13 t14 t15 t16 t17:Value} (h:RowS g N L W t3 t4 t5 t6 t7 t8 t9 t10 t11 t12 t13 t14 t15 t16 t17) (hb:∀ b,N<=b->W'.heap[b]?=W.heap[b]?):RowS g N (L.setIfInBounds 15 true) W' t3 t4 t5 t6 t7 t8 t9 t10 t11 t12 t13 t14 t15 t16 t17 where
 s0:=fun e=>h.s0 (gS e)
 s1:=fun e=>h.s1 (gS e)
 s2:=fun e=>by obtain ⟨b,h1,h2,h3,h4⟩:=h.s2 (gS e);exact ⟨b,h1,h2,by unfold Bk;rw [hb b h1];exact h3,h4⟩
 s3:=fun e=>h.s3 (gS e)
 s4:=fun e=>h.s4 (gS e)
 s5:=fun e=>by obtain ⟨b,j,h1,h2,h3,h4,h5⟩:=h.s5 (gS e);exact ⟨b,j,h1,h2,h3,by unfold Bk;rw [hb b h1];exact h4,h5⟩
 s6:=fun e=>h.s6 (gS e)
 s7:=fun e=>h.s7 (gS e)
 s8:=fun e=>h.s8 (gS e)
 s9:=fun e=>by obtain ⟨b,h1,h2,h3,h4⟩:=h.s9 (gS e);exact ⟨b,h1,h2,by unfold Bk;rw [hb b h1];exact h3,h4⟩
 s10:=fun e=>h.s10 (gS e)
 s11:=fun e=>h.s11 (gS e)
 s12:=fun e=>by obtain ⟨b,j,h1,h2,h3,h4,h5⟩:=h.s12 (gS e);exact ⟨b,j,h1,h2,h3,by unfold Bk;rw [hb b h1];exact h4,h5⟩
 s13:=fun e=>h.s13 (gS e)
 s14:=fun e=>h.s14 (gS e)
theorem getD_setT {L:Array Bool} {i j:Nat} (h:i≠j) (e:(L.setIfInBounds i true).getD j true=false):L.getD j true=false:=by
 simp only [Array.getD_eq_getD_getElem?,Array.getElem?_setIfInBounds] at e ⊢;rw [if_neg h] at e;exact e
theorem gT {L:Array Bool} {i j:Nat} (e:(L.setIfInBounds i true).getD j true=false) (h:i≠j:=by decide):L.getD j true=false:=getD_setT h e
theorem rowI_next {g N res B n i:Nat} {v:Value} {p p':Int} {w0 W W':World} {L:Array Bool} {t1 t3 t4 t5 t6 t7 t8 t9 t10 t11 t12 t13 t14 t15 t16 t17:Value} (hi:i≠15) (hLs:L.size=16) (hcn:unN (L.setIfInBounds i true)+1=unN L) (hx:Bx g w0 W) (hxW:Bx g W W') (hN:N<=W.heap.size) (hres:res≠g)
  (hz:L.getD 15 true=false->Bk W res zero5 55) (hf:L.getD 15 false=true->∃ K V A B' D:Int,smR (((K,V),(A,B')),D)/\Bk W res #[.int .i64 K, .int .i64 V, .int .i64 A, .int .i64 B', .int .i64 D] 55)
  (hpp:p<=p') (hp2:p'+3*(unN L:Int)<=p+51) (hR:Rd B W' g v n p') (S:RowS g N (L.setIfInBounds i true) W' t3 t4 t5 t6 t7 t8 t9 t10 t11 t12 t13 t14 t15 t16 t17) :
  RowI g N res B n v p w0 (L.setIfInBounds i true) { tmps:=#[.pointer (some ⟨g,0,none⟩),t1, .pointer (some ⟨res,0,none⟩),t3,t4,t5,t6,t7,t8,t9,t10,t11,t12,t13,t14,t15,t16,t17],defers:=[] } W' :=
 ⟨by simp [hLs],⟨p',hpp,by omega,hR⟩,hx.trans hxW,Nat.le_trans hN hxW.size,_,_,_,_,_,_,_,_,_,_,_,_,_,_,_,_,rfl,S,fun e=>(hz (getD_setT hi e)).keepx hxW hres,fun e=>by
  obtain ⟨K,V,A,B',D,h1,h2⟩:=hf (getD_set hi e);exact ⟨K,V,A,B',D,h1,h2.keepx hxW hres⟩⟩
theorem l71Row_any {B:Nat} {w:World} {g:Nat} {v:Value} {n:Nat} {p:Int} (h:Rd B w g v n p) (hp:0<=p) (hp':p<=800000) :
  Calls Tryz.prog 128 #[.pointer (some ⟨g,0,none⟩)] w fun e w'=>∃ K V A B' D:Int,e= .returned (rv K V A B' D)/\smR (((K,V),(A,B')),D)/\(∃ p':Int,p<=p'/\p'<=p+48/\Rd B w' g v n p')/\Bx g w w':=by
 have hg:=h.blk.lt;have h0:=h.keepb (bAz (Below.refl _ _) (.cells zero5 55));have br:Bk (w.alloc (.cells zero5 55)) w.heap.size zero5 55:=Bk.new _ _ rfl;have x0:Bx g w (w.alloc (.cells zero5 55)):=(Bx.refl _ _).alloc _;go_enter Tryz.func128,Tryz.ntmps128;go_wp2_with fail;refine wp_region_inv (by kernel_rfl) (RowI g (w.heap.size+1) w.heap.size B n v p w) ?hg ?hs ?h0 ?hstep ?hend
 case hg =>
  intro i o ho;have hi:i<16:=(Array.getElem?_eq_some_iff.1 ho).1;obtain rfl|rfl|rfl|rfl|rfl|rfl|rfl|rfl|rfl|rfl|rfl|rfl|rfl|rfl|rfl|rfl:i=0\/i=1\/i=2\/i=3\/i=4\/i=5\/i=6\/i=7\/i=8\/i=9\/i=10\/i=11\/i=12\/i=13\/i=14\/i=15:=by omega
  all_goals cases ho;rfl
 case hs=>intro L a W hI;exact hI.1
 case h0 =>
  refine ⟨by simp,⟨p,by omega,?_,h0.keepb (Below.refl _ _).drew⟩,x0.drew,by simp,_,_,_,_,_,_,_,_,_,_,_,_,_,_,_,_,rfl,?_,fun _=>br,fun e=>?_⟩
  ·rw [unN_new];show p+3*(16:Int)<=_;omega
  ·constructor<;>(intro e;simp at e)
  ·simp at e
 case hend =>
  rintro L a W ⟨hLs,⟨p',hp1,hp2,hR⟩,hx,hN,t1,t3,t4,t5,t6,t7,t8,t9,t10,t11,t12,t13,t14,t15,t16,t17,rfl,S,hz,hf⟩ hr;have h15:L.getD 15 false=true:=by
   refine all_listed (by simpa using hLs) ?_ hr 15 (by decide);intro i o ho;have hi:i<16:=(Array.getElem?_eq_some_iff.1 ho).1;obtain rfl|rfl|rfl|rfl|rfl|rfl|rfl|rfl|rfl|rfl|rfl|rfl|rfl|rfl|rfl|rfl:i=0\/i=1\/i=2\/i=3\/i=4\/i=5\/i=6\/i=7\/i=8\/i=9\/i=10\/i=11\/i=12\/i=13\/i=14\/i=15:=by omega
   all_goals cases ho
   all_goals simp
  obtain ⟨K1,V,A,B',D,hsm,hb⟩:=hf h15;obtain ⟨q0,q1,q2,q3,q4⟩:=hb.five;clear hz hf S;go_wp2_with fail;refine bodyPost_ret (v:=rv K1 V A B' D) (by simp [results,Tryz.results128,go_sem,q0,q1,q2,q3,q4]) rfl ?_;exact ⟨K1,V,A,B',D,rfl,hsm,⟨p',hp1,by omega,hR⟩,hx⟩
 case hstep =>
  rintro L a W i o ⟨hLs,⟨p',hp1,hp2,hR⟩,hx,hN,t1,t3,t4,t5,t6,t7,t8,t9,t10,t11,t12,t13,t14,t15,t16,t17,rfl,S,hz,hf⟩ hi ho;obtain ⟨hun,o',ho',hall⟩:=mem_ready.1 hi;rw [ho] at ho';cases ho';have hi16:i<16:=(Array.getElem?_eq_some_iff.1 ho).1;have hcn:=unN_at hLs hi16 hun;clear hi;generalize hK:(fun a' w'=>RowI g (w.heap.size+1) w.heap.size B n v p w (L.setIfInBounds i true) a' w')=K;obtain rfl|rfl|rfl|rfl|rfl|rfl|rfl|rfl|rfl|rfl|rfl|rfl|rfl|rfl|rfl|rfl:i=0\/i=1\/i=2\/i=3\/i=4\/i=5\/i=6\/i=7\/i=8\/i=9\/i=10\/i=11\/i=12\/i=13\/i=14\/i=15:=by omega
  ·cases ho;go_simp;subst hK;exact rowI_next (by decide) hLs hcn hx (Bx.refl _ _) hN (by omega) hz hf (by omega) (by omega) hR (S.put0 rfl)
  ·cases ho;have e0:=S.s0 (hall ⟨0, .data⟩ (by simp) rfl);subst e0;go_simp;refine (pA hR (by omega) (by omega) _ (by omega) (by omega)).mono ?_;rintro e W1 ⟨k,rfl,hk0,hk1,hR1,hx1⟩;subst hK;exact rowI_next (by decide) hLs hcn hx hx1 hN (by omega) hz hf (by omega) (by omega) hR1 ((S.keep hx1).put1 ⟨k,hk0,by omega,rfl⟩)
  ·cases ho;go_simp;have hgW:=hR.blk.lt;have hxa:Bx g W (W.alloc (.cells valsA 3)):=(Bx.refl _ _).alloc _;subst hK;exact rowI_next (by decide) hLs hcn hx hxa hN (by omega) hz hf (by omega) (by omega) (hR.keepb (bAz (Below.refl _ _) _)) ((S.keep hxa).put2 ⟨W.heap.size,hN,by omega,Bk.new _ _ rfl,rfl⟩)
  ·cases ho;go_simp;subst hK;exact rowI_next (by decide) hLs hcn hx (Bx.refl _ _) hN (by omega) hz hf (by omega) (by omega) hR (S.put3 rfl)
  ·cases ho;have e3:=S.s3 (hall ⟨3, .data⟩ (by simp) rfl);subst e3;go_simp;refine (pA hR (by omega) (by omega) _ (by omega) (by omega)).mono ?_;rintro e W1 ⟨k,rfl,hk0,hk1,hR1,hx1⟩;obtain ⟨j,rfl⟩:=Int.eq_ofNat_of_zero_le hk0;subst hK;exact rowI_next (by decide) hLs hcn hx hx1 hN (by omega) hz hf (by omega) (by omega) hR1 ((S.keep hx1).put4 ⟨j,by omega,rfl⟩)
  ·cases ho;obtain ⟨b,hb1,hb2,hb3,rfl⟩:=S.s2 (hall ⟨2, .data⟩ (by simp) rfl);obtain ⟨j,hj,rfl⟩:=S.s4 (hall ⟨4, .data⟩ (by simp) rfl);have hj':((j:Int)<9):=by omega
   go_simp;subst hK;exact rowI_next (by decide) hLs hcn hx (Bx.refl _ _) hN (by omega) hz hf (by omega) (by omega) hR (S.put5 ⟨b,j,hb1,hb2,hj,hb3,rfl⟩)
  ·cases ho;obtain ⟨b,j,hb1,hb2,hj,hb3,rfl⟩:=S.s5 (hall ⟨5, .data⟩ (by simp) rfl);obtain ⟨V,hV,hV1,hV2⟩:=vals_at hj;have hc:=hb3.cell hV;go_simp;subst hK;exact rowI_next (by decide) hLs hcn hx (Bx.refl _ _) hN (by omega) hz hf (by omega) (by omega) hR (S.put6 ⟨V,hV1,hV2,rfl⟩)
  ·cases ho;go_simp;subst hK;exact rowI_next (by decide) hLs hcn hx (Bx.refl _ _) hN (by omega) hz hf (by omega) (by omega) hR (S.put7 rfl)
  ·cases ho;have e7:=S.s7 (hall ⟨7, .data⟩ (by simp) rfl);subst e7;go_simp;refine (l71Time_any hR (by omega) (by omega)).mono ?_;rintro e W1 ⟨A,B',rfl,hA0,hA1,hB0,hB1,⟨p2,hq1,hq2,hR1⟩,hx1⟩;subst hK;exact rowI_next (by decide) hLs hcn hx hx1 hN (by omega) hz hf (by omega) (by omega) hR1 ((S.keep hx1).put8 ⟨A,B',hA0,hA1,hB0,hB1,rfl⟩)
  ·cases ho;go_simp;have hgW:=hR.blk.lt;have hxa:Bx g W (W.alloc (.cells diffsA 3)):=(Bx.refl _ _).alloc _;subst hK;exact rowI_next (by decide) hLs hcn hx hxa hN (by omega) hz hf (by omega) (by omega) (hR.keepb (bAz (Below.refl _ _) _)) ((S.keep hxa).put9 ⟨W.heap.size,hN,by omega,Bk.new _ _ rfl,rfl⟩)
  ·cases ho;go_simp;subst hK;exact rowI_next (by decide) hLs hcn hx (Bx.refl _ _) hN (by omega) hz hf (by omega) (by omega) hR (S.put10 rfl)
  ·cases ho;have e10:=S.s10 (hall ⟨10, .data⟩ (by simp) rfl);subst e10;go_simp;refine (pA hR (by omega) (by omega) _ (by omega) (by omega)).mono ?_;rintro e W1 ⟨k,rfl,hk0,hk1,hR1,hx1⟩;obtain ⟨j,rfl⟩:=Int.eq_ofNat_of_zero_le hk0;subst hK;exact rowI_next (by decide) hLs hcn hx hx1 hN (by omega) hz hf (by omega) (by omega) hR1 ((S.keep hx1).put11 ⟨j,by omega,rfl⟩)
  ·cases ho;obtain ⟨b,hb1,hb2,hb3,rfl⟩:=S.s9 (hall ⟨9, .data⟩ (by simp) rfl);obtain ⟨j,hj,rfl⟩:=S.s11 (hall ⟨11, .data⟩ (by simp) rfl);have hj':((j:Int)<8):=by omega
   go_simp;subst hK;exact rowI_next (by decide) hLs hcn hx (Bx.refl _ _) hN (by omega) hz hf (by omega) (by omega) hR (S.put12 ⟨b,j,hb1,hb2,hj,hb3,rfl⟩)
  ·cases ho;obtain ⟨b,j,hb1,hb2,hj,hb3,rfl⟩:=S.s12 (hall ⟨12, .data⟩ (by simp) rfl);obtain ⟨V,hV,hV1,hV2⟩:=diffs_at hj;have hc:=hb3.cell hV;go_simp;subst hK;exact rowI_next (by decide) hLs hcn hx (Bx.refl _ _) hN (by omega) hz hf (by omega) (by omega) hR (S.put13 ⟨V,hV1,hV2,rfl⟩)
  ·cases ho;obtain ⟨K1,hK1,hK2,rfl⟩:=S.s1 (hall ⟨1, .data⟩ (by simp) rfl);obtain ⟨V,hV1,hV2,rfl⟩:=S.s6 (hall ⟨6, .data⟩ (by simp) rfl);obtain ⟨A,B',hA0,hA1,hB0,hB1,rfl⟩:=S.s8 (hall ⟨8, .data⟩ (by simp) rfl);obtain ⟨D,hD1,hD2,rfl⟩:=S.s13 (hall ⟨13, .data⟩ (by simp) rfl);go_simp;subst hK;exact rowI_next (by decide) hLs hcn hx (Bx.refl _ _) hN (by omega) hz hf (by omega) (by omega) hR (S.put14 ⟨K1,V,A,B',D,smR_mk hK1 hK2 hV1 hV2 hA0 hA1 hB0 hB1 hD1 hD2,rfl⟩)
  ·cases ho;obtain ⟨K1,V,A,B',D,hsm,rfl⟩:=S.s14 (hall ⟨14, .data⟩ (by simp) rfl);have hb:=hz hun;obtain ⟨q0,q1,q2,q3,q4⟩:=hb.five;have f0:=hb.free 0;have f1:=hb.free 1;have f2:=hb.free 2;have f3:=hb.free 3;have f4:=hb.free 4;go_simp;subst hK;have hB:=h.size;have nb:∀ b,w.heap.size+1<=b->(((((W.setCell ⟨w.heap.size,0,none⟩ (.int .i64 K1)).setCell ⟨w.heap.size,1,none⟩ (.int .i64 V)).setCell ⟨w.heap.size,2,none⟩ (.int .i64 A)).setCell ⟨w.heap.size,3,none⟩ (.int .i64 B')).setCell ⟨w.heap.size,4,none⟩ (.int .i64 D)).heap[b]?=W.heap[b]?:=fun b hb=>by
    rw [Below.heap_setCell _ _ _ _ (by simp;omega),Below.heap_setCell _ _ _ _ (by simp;omega),Below.heap_setCell _ _ _ _ (by simp;omega),Below.heap_setCell _ _ _ _ (by simp;omega),Below.heap_setCell _ _ _ _ (by simp;omega)]
   refine ⟨by simp [hLs],⟨p',hp1,by omega,((((hR.apart (by simp;omega) (by simp;omega) _).apart (by simp;omega) (by simp;omega) _).apart (by simp;omega) (by simp;omega) _).apart (by simp;omega) (by simp;omega) _).apart (by simp;omega) (by simp;omega) _⟩,((((hx.setNew (by simp) _).setNew (by simp) _).setNew (by simp) _).setNew (by simp) _).setNew (by simp) _,by simp [World.setCell];exact hN,_,_,_,_,_,_,_,_,_,_,_,_,_,_,_,_,rfl,S.last nb,fun e=>?_,fun _=>⟨K1,V,A,B',D,hsm,hb.set5 _ _ _ _ _⟩⟩;simp [hLs] at e
theorem sm_snoc {l:List Rw} {r:Rw} (h:∀ x∈l,smR x) (hr:smR r):∀ x∈l++[r],smR x:=fun x hx=>by
 rcases List.mem_append.1 hx with hx|hx
 ·exact h x hx
 ·rw [List.mem_singleton.1 hx];exact hr
theorem sm_other {K V A B D K' V' A' B' D':Int} (h:smR (((K,V),(A,B)),D)) (h':smR (((K',V'),(A',B')),D')):smR (((K',V'),(A,B)),D)/\smR (((K',V'),(A,B)),-D'):=by
 obtain ⟨h1,h2,h3⟩:=h;obtain ⟨h4,h5,h6⟩:=h';simp only [rwOkB,okB,inB,Bool.and_eq_true,decide_eq_true_eq] at h1 h4;simp only at h2 h3 h5 h6;exact ⟨smR_mk (by omega) (by omega) (by omega) (by omega) (by omega) (by omega) (by omega) (by omega) (by omega) (by omega),smR_mk (by omega) (by omega) (by omega) (by omega) (by omega) (by omega) (by omega) (by omega) (by omega) (by omega)⟩
theorem own_set {t:TypeId} {k:Nat} {w:World} {B:Nat} {v:Value} {n:Nat} {xs:List Value} {p:Addr} (h:w.ownsRow B t k v n xs) (hk:∀ b,v.ownBlock=some b->b≠p.block) (u:Value):(w.setCell p u).ownsRow B t k v n xs :=
 oAz h fun b e=>Below.heap_setCell _ _ _ _ (hk b e)
theorem l71Rows_any {B:Nat} {w:World} {g:Nat} {v:Value} {n:Nat} {p:Int} (h:Rd B w g v n p) (hp:0<=p) (hp':p<=700000) (most:Int) (hm0:0<=most) (hm1:most<=10) :
  Calls Tryz.prog 161 #[.pointer (some ⟨g,0,none⟩), .int .i64 most] w fun e w'=>∃ (o:Value) (l:List Rw),e= .returned o/\(l.length:Int)<=most/\(∀ r∈l,smR r)/\OwnR w' w.heap.size o l/\(∃ p':Int,p<=p'/\p'<=p+600/\Rd B w' g v n p')/\Bx g w w':=by
 have hg:=h.blk.lt;have hh:=h.here;have hs:=h.size;have h0:=h.keepb (bAz (Below.refl _ _) (.cells #[] 55));have x0:Bx g w (w.alloc (.cells #[] 55)):=(Bx.refl _ _).alloc _;have o0:=oEz w rfl;go_enter Tryz.func161,Tryz.ntmps161;go_wp2_with fail;refine (pA h0 hp (by omega) _ (by omega) (by omega)).mono ?_;rintro e w1 ⟨k,rfl,hk0,hk1,hr1,hx1⟩;have o1:OwnR w1 w.heap.size _ []:=oX o0 hx1 hg;have x1:=x0.trans hx1;clear o0 x0 h0 hx1;go_wp2_with fail
 go_loopw [5,6] (fun o i wr=>∃ (m:Nat) (l:List Rw) (p':Int),(m:Int)<=most/\i= .int .i64 m/\(l.length:Int)+m<=most/\(∀ r∈l,smR r)/\OwnR wr w.heap.size o l/\p<=p'/\p'<=p+1+52*l.length/\Rd B wr g v n p'/\Bx g w wr) (fun _ i _=>(intOf i).toNat)
 case atStart =>
  obtain ⟨m,rfl⟩:=Int.eq_ofNat_of_zero_le hk0;exact ⟨m,[],p+1,by omega,rfl,by simp;omega,by simp,o1,by omega,by simp,hr1,x1⟩
 case round =>
  clear o1 x1 hr1;obtain ⟨m,l,p',hm,rfl,hlm,hsm,hown,hpp,hpq,hr,hx⟩:=hrel;have HO:Hid (OwnR wr w.heap.size u5 l):=hown;have HQ:Hid (p'<=p+1+52*l.length):=hpq;have HS:Hid (∀ r∈l,smR r):=hsm;have hpr:p'<=p+521:=by omega
  clear hsm hpq
  by_cases hlt:0<m
  ·have R0:Rs wr u5 l:=OwnR.rs hown (by omega);obtain ⟨a5,cap5,rfl,hc5,hm5,hn5,hcells5⟩:=Rs.open R0;unfold maxLen at hm5;have HC:=(show Hid _ from hcells5);clear hcells5 R0 hown hn5;go_wp2_with fail;refine (l71Row_any hr (by omega) (by omega)).mono ?_;rintro e w2 ⟨K,V,A,B1,D,rfl,hsr,⟨p2,hp1,hp2,hr2⟩,hx2⟩;have own2:OwnR w2 w.heap.size (.slice a5 l.length cap5) l:=oX HO.out hx2 hg;have x2:=hx.trans hx2;have hz2:=x2.size;have HB:Hid (∀ b,(Value.slice a5 l.length cap5).ownBlock=some b->b≠w2.heap.size):=fun b e=>by have:=oT own2 b e;omega
   have HSR:Hid (smR (((K,V),(A,B1)),D)):=hsr;have hr3:=hr2.keepb (bAz (Below.refl _ _) (.cells #[.int .i64 K, .int .i64 V, .int .i64 A, .int .i64 B1, .int .i64 D] 55));have b3:Bk (w2.alloc (.cells #[.int .i64 K, .int .i64 V, .int .i64 A, .int .i64 B1, .int .i64 D] 55)) w2.heap.size #[.int .i64 K, .int .i64 V, .int .i64 A, .int .i64 B1, .int .i64 D] 55:=Bk.new _ _ rfl;have own3:OwnR (w2.alloc (.cells #[.int .i64 K, .int .i64 V, .int .i64 A, .int .i64 B1, .int .i64 D] 55)) w.heap.size (.slice a5 l.length cap5) l:=own2.alloc _;have x3:=x2.alloc (.cells #[.int .i64 K, .int .i64 V, .int .i64 A, .int .i64 B1, .int .i64 D] 55);have hz3:w2.heap.size<(w2.alloc (.cells #[.int .i64 K, .int .i64 V, .int .i64 A, .int .i64 B1, .int .i64 D] 55)).heap.size:=by simp
   clear hsr hr hx hx2 HO own2 hr2
   go_upto_region 6 with fail
   generalize (w2.alloc (.cells #[.int .i64 K, .int .i64 V, .int .i64 A, .int .i64 B1, .int .i64 D] 55))=w3 at *
   by_cases hpos:0<l.length
   ·go_wp2_with fail;refine (pA hr3 (by omega) (by omega) _ (by omega) (by omega)).mono ?_;rintro e w4 ⟨k3,rfl,hk30,hk31,hr4,hx4⟩;have own4:OwnR w4 w.heap.size (.slice a5 l.length cap5) l:=oX own3 hx4 hg;have b4:=b3.keepx hx4 (by omega);have x4:=x3.trans hx4;have hz4:=hx4.size;clear own3 b3 x3 hr3 hx4
    by_cases hk3:k3=0
    ·subst hk3;go_wp2_with fail;refine (pA hr4 (by omega) (by omega) _ (by omega) (by omega)).mono ?_;rintro e w5 ⟨j0,rfl,hj0,hj1,hr5,hx5⟩;obtain ⟨j,rfl⟩:=Int.eq_ofNat_of_zero_le hj0;have own5:OwnR w5 w.heap.size (.slice a5 l.length cap5) l:=oX own4 hx5 hg;have b5:=b4.keepx hx5 (by omega);have x5:=x4.trans hx5;have hz5:=hx5.size;have hjl:j<l.length:=by omega
     have R5:Rs w5 (.slice a5 l.length cap5) l:=OwnR.rs own5 (by omega);obtain ⟨a5',cap5',ee,_,_,_,hcells5⟩:=Rs.open R5;simp only [Value.slice.injEq,true_and] at ee;obtain ⟨rfl,rfl⟩:=ee;obtain ⟨g5,off5,K2,V2,A2,B2,D2,rfl,hg5,hr',c0,c1,c2,c3,c4⟩:=hcells5 j hjl;have hsr2:=HS.out _ (List.mem_of_getElem? hr');have HS1:Hid (smR (((K2,V2),(A,B1)),D)):=(sm_other HSR.out hsr2).1;have HS2:Hid (smR (((K2,V2),(A,B1)),-D2)):=(sm_other HSR.out hsr2).2;have hD1 : -3<=D2:=hsr2.2.1;have hD2:D2<=3:=hsr2.2.2;have hr6:=hr5.keepb (bAz (Below.refl _ _) (.cells #[.int .i64 K2, .int .i64 V2, .int .i64 A2, .int .i64 B2, .int .i64 D2] 55));have y6:Bk (w5.alloc (.cells #[.int .i64 K2, .int .i64 V2, .int .i64 A2, .int .i64 B2, .int .i64 D2] 55)) w5.heap.size #[.int .i64 K2, .int .i64 V2, .int .i64 A2, .int .i64 B2, .int .i64 D2] 55:=Bk.new _ _ rfl;have b6:=b5.alloc (.cells #[.int .i64 K2, .int .i64 V2, .int .i64 A2, .int .i64 B2, .int .i64 D2] 55);have own6:OwnR (w5.alloc (.cells #[.int .i64 K2, .int .i64 V2, .int .i64 A2, .int .i64 B2, .int .i64 D2] 55)) w.heap.size (.slice (some ⟨g5,off5,none⟩) l.length cap5) l:=own5.alloc _;have x6:=x5.alloc (.cells #[.int .i64 K2, .int .i64 V2, .int .i64 A2, .int .i64 B2, .int .i64 D2] 55);clear hcells5 R5 own4 own5 b4 b5 x4 x5 hx5 hr4 hr5 hr' hsr2
     go_upto_region 8 with fail
     clear c0 c1 c2 c3 c4;generalize (w5.alloc (.cells #[.int .i64 K2, .int .i64 V2, .int .i64 A2, .int .i64 B2, .int .i64 D2] 55))=w6 at *;obtain ⟨y0,y1,y2,y3,y4⟩:=y6.five;obtain ⟨q0,q1,q2,q3,q4⟩:=b6.five;have f0:=b6.free 0;have b7:=b6.set 0 (.int .i64 K2);have y7:=y6.apart (p:=⟨w2.heap.size,0,none⟩) (by simp;omega) (.int .i64 K2);have hr7:=hr6.apart (q:=⟨w2.heap.size,0,none⟩) (by simp;omega) (by simp;omega) (.int .i64 K2);have x7:=x6.setNew (p:=⟨w2.heap.size,0,none⟩) (by simp;omega) (.int .i64 K2);have own7:OwnR (w6.setCell ⟨w2.heap.size,0,none⟩ (.int .i64 K2)) w.heap.size (.slice (some ⟨g5,off5,none⟩) l.length cap5) l:=own_set own6 HB.out _
     go_upto_region 9 with fail
     clear y0 y1 y2 y3 y4 q0 q1 q2 q3 q4 f0 b6 y6 hr6 x6 own6;generalize (w6.setCell ⟨w2.heap.size,0,none⟩ (.int .i64 K2))=w7 at *;obtain ⟨y0,y1,y2,y3,y4⟩:=y7.five;obtain ⟨q0,q1,q2,q3,q4⟩:=Bk.five b7;have f1:=b7.free 1;have b8:=b7.set 1 (.int .i64 V2);have y8:=y7.apart (p:=⟨w2.heap.size,1,none⟩) (by simp;omega) (.int .i64 V2);have hr8:=hr7.apart (q:=⟨w2.heap.size,1,none⟩) (by simp;omega) (by simp;omega) (.int .i64 V2);have x8:=x7.setNew (p:=⟨w2.heap.size,1,none⟩) (by simp;omega) (.int .i64 V2);have own8:OwnR (w7.setCell ⟨w2.heap.size,1,none⟩ (.int .i64 V2)) w.heap.size (.slice (some ⟨g5,off5,none⟩) l.length cap5) l:=own_set own7 HB.out _
     go_upto_region 10 with fail
     clear y0 y1 y2 y3 y4 q0 q1 q2 q3 q4 f1 b7 y7 hr7 x7 own7;generalize (w7.setCell ⟨w2.heap.size,1,none⟩ (.int .i64 V2))=w8 at *;have b8':Bk w8 w2.heap.size #[.int .i64 K2, .int .i64 V2, .int .i64 A, .int .i64 B1, .int .i64 D] 55:=b8;clear b8;go_wp2_with fail;refine (pA hr8 (by omega) (by omega) _ (by omega) (by omega)).mono ?_;rintro e wa ⟨k4,rfl,hk40,hk41,hra,hxa⟩;have owna:OwnR wa w.heap.size (.slice (some ⟨g5,off5,none⟩) l.length cap5) l:=oX own8 hxa hg;have ba:=b8'.keepx hxa (by omega);have ya:=y8.keepx hxa (by omega);have xa:=x8.trans hxa;clear own8 b8' y8 x8 hr8 hxa
     by_cases hk4:k4=0
     ·subst hk4;obtain ⟨y0,y1,y2,y3,y4⟩:=ya.five;obtain ⟨q0,q1,q2,q3,q4⟩:=ba.five;have f4:=ba.free 4;have bb:=ba.set 4 (.int .i64 (-D2));have hrb:=hra.apart (q:=⟨w2.heap.size,4,none⟩) (by simp;omega) (by simp;omega) (.int .i64 (-D2));have xb:=xa.setNew (p:=⟨w2.heap.size,4,none⟩) (by simp;omega) (.int .i64 (-D2));have ownb:OwnR (wa.setCell ⟨w2.heap.size,4,none⟩ (.int .i64 (-D2))) w.heap.size (.slice (some ⟨g5,off5,none⟩) l.length cap5) l:=own_set owna HB.out _
      go_upto_region 12 with fail
      clear y0 y1 y2 y3 y4 q0 q1 q2 q3 q4 f4 ba ya hra xa owna;generalize (wa.setCell ⟨w2.heap.size,4,none⟩ (.int .i64 (-D2)))=wb at *;have bb':Bk wb w2.heap.size #[.int .i64 K2, .int .i64 V2, .int .i64 A, .int .i64 B1, .int .i64 (-D2)] 55:=bb;clear bb;obtain ⟨q0,q1,q2,q3,q4⟩:=bb'.five;have hW9:=xb.size
      go_wp2_with (at_builtin;refine appR _ rfl _ _ rfl w.heap.size _ l rfl (ownb.alloc _) _ K2 V2 A B1 (-D2) rfl (Bk.new _ _ rfl) (by omega) (by simp;omega) ?_;intro g9 cap9 w9 own9 hgrow hlg)
      have hr9:Rd B w9 g v n (p2+1+1+1):=(hrb.keepb (bAz (Below.refl _ _) _)).grown hgrow (fun k e=>by have:=oB ownb k e;omega);have hx9:Bx g w w9:=(xb.alloc _).grown hgrow (oB ownb);exact ⟨⟨m-1,l++[(((K2,V2),(A,B1)),(-D2))],(p2+1+1+1),by omega,by congr 1;omega,by simp;omega,sm_snoc HS.out HS2.out,own9,by omega,by have:=HQ.out;simp;omega,hr9,hx9⟩,by simp [intOf];omega⟩
     ·have hkb4:(k4==0)=false:=by simpa using hk4
      obtain ⟨q0,q1,q2,q3,q4⟩:=ba.five;have hW9:=xa.size
      go_wp2_with (at_builtin;refine appR _ rfl _ _ rfl w.heap.size _ l rfl (owna.alloc _) _ K2 V2 A B1 D rfl (Bk.new _ _ rfl) (by omega) (by simp;omega) ?_;intro g9 cap9 w9 own9 hgrow hlg)
      have hr9:Rd B w9 g v n (p2+1+1+1):=(hra.keepb (bAz (Below.refl _ _) _)).grown hgrow (fun k e=>by have:=oB owna k e;omega);have hx9:Bx g w w9:=(xa.alloc _).grown hgrow (oB owna);exact ⟨⟨m-1,l++[(((K2,V2),(A,B1)),D)],(p2+1+1+1),by omega,by congr 1;omega,by simp;omega,sm_snoc HS.out HS1.out,own9,by omega,by have:=HQ.out;simp;omega,hr9,hx9⟩,by simp [intOf];omega⟩
    ·have hkb3:(k3==0)=false:=by simpa using hk3
     obtain ⟨q0,q1,q2,q3,q4⟩:=b4.five;have hW9:=x4.size
     go_wp2_with (at_builtin;refine appR _ rfl _ _ rfl w.heap.size _ l rfl (own4.alloc _) _ K V A B1 D rfl (Bk.new _ _ rfl) (by omega) (by simp;omega) ?_;intro g9 cap9 w9 own9 hgrow hlg)
     have hr9:Rd B w9 g v n (p2+1):=(hr4.keepb (bAz (Below.refl _ _) _)).grown hgrow (fun k e=>by have:=oB own4 k e;omega);have hx9:Bx g w w9:=(x4.alloc _).grown hgrow (oB own4);exact ⟨⟨m-1,l++[(((K,V),(A,B1)),D)],(p2+1),by omega,by congr 1;omega,by simp;omega,sm_snoc HS.out HSR.out,own9,by omega,by have:=HQ.out;simp;omega,hr9,hx9⟩,by simp [intOf];omega⟩
   ·obtain rfl:l=[]:=List.eq_nil_of_length_eq_zero (by omega);simp only [List.length_nil] at *;obtain ⟨q0,q1,q2,q3,q4⟩:=b3.five;have hW9:=x3.size
    go_wp2_with (at_builtin;refine appR _ rfl _ _ rfl w.heap.size _ [] rfl (own3.alloc _) _ K V A B1 D rfl (Bk.new _ _ rfl) (by simp) (by simp;omega) ?_;intro g9 cap9 w9 own9 hgrow hlg)
    have hr9:Rd B w9 g v n p2:=(hr3.keepb (bAz (Below.refl _ _) _)).grown hgrow (fun k e=>by have:=oB own3 k e;omega);have hx9:Bx g w w9:=(x3.alloc _).grown hgrow (oB own3);exact ⟨⟨m-1,[]++[(((K,V),(A,B1)),D)],p2,by omega,by congr 1;omega,by simp;omega,sm_snoc HS.out HSR.out,own9,by omega,by have:=HQ.out;simp;omega,hr9,hx9⟩,by simp [intOf];omega⟩
  ·obtain rfl:m=0:=by omega
   have:=HQ.out;go_wp2_with fail;go_ret;exact ⟨_,l,rfl,by omega,HS.out,HO.out,⟨p',hpp,by omega,hr⟩,hx⟩
section
variable {ops:Array Oper} {o:Oper} {a:Act} {Kk:Act->World->Prop} {Q:Exit->Act->World->Prop} {E:Prop}
theorem stepRs (w:World) (hgd:o.guard=none) (s x:Operand) (ho:o.op= .call { callee:= .builtin .append,args:=#[s,x],argTypes:=#[28,28] })
  (base:Nat) (v:Value) (l:List Rw) (hs:a.eval s=v) (hown:OwnR w base v l) (v2:Value) (m:List Rw) (hx:a.eval x=v2) (hR:Rs w v2 m) (hl:l.length+m.length<=2000000) (hbase:base<=w.heap.size)
  (h:∀ v' w',OwnR w' base v' (l++m)->w.grownBy w' v.ownBlock->Kk (a.put o.dst v') w') :
  if Region.wanted o (yielded ops a.tmps)=true then Oper.wp Tryz.prog o a w Kk Q else E:=by
 have hw:Region.wanted o (yielded ops a.tmps)=true:=by simp [Region.wanted,hgd]
 rw [if_pos hw];obtain ⟨i0,hi,hz0,hz1,hz2⟩:=info_parts infoR;obtain ⟨ad,cap,rfl,hsrc⟩:=rs_src hR
 by_cases hm0:m=[]
 ·subst hm0;have hrun:=app_zero hown ad cap o.type;unfold Oper.wp;simp [execOp,ho,resolve,invoke,builtin,hs,hx,hrun,Result.andThen];exact h v w (by simpa using hown) ⟨rfl,rfl,rfl,Nat.le_refl _,fun _ _ _=>rfl⟩
 ·obtain ⟨g,off,rfl,hnews⟩:=hsrc hm0;have hpos:0<m.length:=List.length_pos_iff.2 hm0;refine wp_append_lies w s x 28 ho base 55 i0 _ 5 40 Tryz.underlying28 hi hz0 hz1 hz2 rfl (by decide) v l.length (l.flatMap rowC) hs hown ⟨g,off,none⟩ m.length cap (m.flatMap rowC) hx (flat_len rowC_len m) hnews (onesRs m) hpos (by unfold maxLen;omega) (by omega) hbase w.heap.size rfl ?_;intro g' cap' w' h1 h2 _ _;refine h _ w' ?_ h2
  show w'.ownsRow _ _ _ _ _ _
  rw [List.flatMap_append,List.length_append];exact h1
end
end Go.Proofs.YtbdpcngcbnoioaaGreatDoor
