import Derived.Test.YtbdpcngcbnoioaaGreatDoorAn7
set_option maxRecDepth 100000
set_option maxHeartbeats 4000000
namespace Go.Proofs.YtbdpcngcbnoioaaGreatDoor
open Go.RowKit Go.Shelf
def TrueR (w:World) (e:Ending) (w':World):Prop:=e= .returned (.bool true)/\Below w.heap.size w w'
theorem eqPlanS_rstep {t:RT} {B B':Nat} {s s':Value} {w:World} (hs:RdS B w t s) (hs':RdS B' w t s')
  (hrec:∀ i,i<t.m->∀ (W:World) (u u':Value),RdS B W (t.f i) u->RdS B' W (t.f i) u'->Calls Tryz.prog 114 #[pl (t.f i).k (t.f i).n u,pl (t.f i).k (t.f i).n u'] W (TrueR W)) :
  Calls Tryz.prog 181 #[s,s'] w (TrueR w):=by
 have HR:=(show Hid _ from hrec);have HS:=(show Hid (RdS B w t s) from hs);have HS':=(show Hid (RdS B' w t s') from hs');obtain ⟨a,c,rfl,hm1,hm2⟩:=hs.sl;obtain ⟨a',c',rfl,_,_⟩:=hs'.sl;have htl:t.m<=9223372036854775807:=by unfold maxLen at hm2;omega
 clear hm1 hm2;clear hs hs' hrec;go_enter Tryz.func181,Tryz.ntmps181;go_wp2_with fail
 go_loopw [5] (fun i wr=>∃ k:Nat,i= .int .i64 k/\k<=t.m/\Below w.heap.size w wr) (fun i _=>t.m-(intOf i).toNat)
 case atStart=>exact ⟨0,rfl,Nat.zero_le _,Below.refl _ _⟩
 case round =>
  obtain ⟨k,rfl,hkl,hb⟩:=hrel
  by_cases hlt:k<t.m
  ·have ik:((k:Int)<(t.m:Int)):=by omega
   obtain ⟨g,off,b2,d2,rfl,hgl,c0,c1,c2,hkid⟩:=(HS.out.keep hb).at hlt;obtain ⟨g',off',b2',d2',rfl,hgl',c0',c1',c2',hkid'⟩:=(HS'.out.keep hb).at hlt;have HK:=(show Hid _ from fun (V:World) (hV:Below wr.heap.size wr V)=>HR.out k hlt V _ _ (hkid.keep hV) (hkid'.keep hV));have hd:Below wr.heap.size wr wr.drew:=(Below.refl _ _).drew;have HW:Hid (∀ V,Below wr.heap.size wr V->(V.cell? ⟨g,off+k*3,none⟩=some (.int .i64 (t.f k).k)/\V.cell? ⟨g,off+k*3+1,none⟩=some (.int .i64 (t.f k).n)/\V.cell? ⟨g,off+k*3+2,none⟩=some (.slice b2 (t.f k).m d2))/\(V.cell? ⟨g',off'+k*3,none⟩=some (.int .i64 (t.f k).k)/\V.cell? ⟨g',off'+k*3+1,none⟩=some (.int .i64 (t.f k).n)/\V.cell? ⟨g',off'+k*3+2,none⟩=some (.slice b2' (t.f k).m d2'))):=fun V hV=>⟨⟨cB hV c0,cB hV c1,cB hV c2⟩,⟨cB hV c0',cB hV c1',cB hV c2'⟩⟩;clear hkid hkid';go_wp2_with fail;clear c0 c1 c2 c0' c1' c2';obtain ⟨⟨i3,i4,i5⟩,i6,i7,i8⟩:=HW.out _ (Below.refl _ _);obtain ⟨⟨j3,j4,j5⟩,j6,j7,j8⟩:=HW.out _ hd
   go_region_law (go_simp;go_at_call 114;refine Calls.mono (HK.out _ hd) ?_;rintro e w7 ⟨rfl,hb7⟩;have hc7:Below wr.heap.size wr w7:=bSz hd hb7)
   all_goals
    clear i3 i4 i5 i6 i7 i8 j3 j4 j5 j6 j7 j8;go_wp2_with fail;go_roundw
    case rel=>exact ⟨k+1,by go_num,by omega,bSz hb hc7⟩
    case measure=>simp [intOf];omega
  ·have hke:k=t.m:=by omega
   have ik:¬ ((k:Int)<(t.m:Int)):=by omega
   go_wp2_with fail;go_ret;exact ⟨rfl,hb⟩
theorem eqPlan_rone {t:RT} {B B':Nat} {s s':Value} {w:World} (hs:RdS B w t s) (hs':RdS B' w t s')
  (hrec:∀ (W:World),RdS B W t s->RdS B' W t s'->Calls Tryz.prog 181 #[s,s'] W (TrueR W)) :
  Calls Tryz.prog 114 #[pl t.k t.n s,pl t.k t.n s'] w (TrueR w):=by
 have bA:Bk ((w.alloc (.cells #[.int .i64 t.k, .int .i64 t.n,s] 25)).alloc (.cells #[.int .i64 t.k, .int .i64 t.n,s'] 25)) w.heap.size #[.int .i64 t.k, .int .i64 t.n,s] 25:=(Bk.new _ _ rfl).alloc _;have bA':Bk ((w.alloc (.cells #[.int .i64 t.k, .int .i64 t.n,s] 25)).alloc (.cells #[.int .i64 t.k, .int .i64 t.n,s'] 25)) (w.heap.size+1) #[.int .i64 t.k, .int .i64 t.n,s'] 25:=Bk.new _ _ (by simp);have hb0:Below w.heap.size w ((w.alloc (.cells #[.int .i64 t.k, .int .i64 t.n,s] 25)).alloc (.cells #[.int .i64 t.k, .int .i64 t.n,s'] 25)):=bAz (bAz (Below.refl _ _) _) _;have HC:=(show Hid _ from hrec _ (hs.keep hb0) (hs'.keep hb0));obtain ⟨a,c,rfl,hm1,hm2⟩:=hs.sl;obtain ⟨a',c',rfl,_,_⟩:=hs'.sl;obtain ⟨x0,x1,x2⟩:=bA.three';obtain ⟨y0,y1,y2⟩:=bA'.three';clear hs hs' hrec bA bA';go_enter Tryz.func114,Tryz.ntmps114;go_wp2_with fail;refine Calls.mono HC.out ?_;rintro e w1 ⟨rfl,hb1⟩;have hbf:=bSz hb0 hb1;go_wp2_with fail;go_ret;exact ⟨rfl,hbf⟩
theorem eqPlanS_rt:∀ (t:RT) {B B':Nat} {s s':Value} {w:World},RdS B w t s->RdS B' w t s'->Calls Tryz.prog 181 #[s,s'] w (TrueR w)
 | .nil,_,_,_,_,_,hs,_=>hs.elim
 | .mk _ _ _ f,_,_,_,_,_,hs,hs'=>eqPlanS_rstep hs hs' fun i _ _ _ _ h h'=>eqPlan_rone (t:=f i) h h' fun _ h h'=>eqPlanS_rt (f i) h h'
theorem eqPlan_rt (t:RT) {B B':Nat} {s s':Value} {w:World} (hs:RdS B w t s) (hs':RdS B' w t s'):Calls Tryz.prog 114 #[pl t.k t.n s,pl t.k t.n s'] w (TrueR w) :=
 eqPlan_rone hs hs' fun _ h h'=>eqPlanS_rt t h h'
end Go.Proofs.YtbdpcngcbnoioaaGreatDoor
