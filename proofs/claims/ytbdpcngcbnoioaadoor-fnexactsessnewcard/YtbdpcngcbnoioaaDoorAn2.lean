import Derived.Test.YtbdpcngcbnoioaaDoorAn0
set_option maxRecDepth 100000
set_option maxHeartbeats 4000000
namespace Go.Proofs.YtbdpcngcbnoioaaDoor
open Go.RowKit Go.Shelf
namespace An
def ShapeOf (k:Int) (F:Nat):Prop:=∀ (n:Int) (w:World),(-9223372036854775808<=n/\n<=9223372036854775807)->Pow w->Calls Tryd.prog F #[.int .i64 n] w fun e w'=>(∃ s,e= .returned (shV s (kidN k) (numLo k) (numHi k)))/\Below w.heap.size w w'
theorem shape_in:ShapeOf 1 58:=fun n w hn hp=>by
 have hI:=fun (W:World) (hW:Pow W)=>itoa_any n hn.1 hn.2 W hW;have HI:=(show Hid _ from hI);have HP:=(show Hid (Pow w) from hp);clear hI hn hp;go_enter Tryd.func58,Tryd.ntmps58;go_wp2_with fail;refine Calls.mono (HI.out _ (pow_keep HP.out (bAz (Below.refl _ _) _) rfl)) ?_;rintro e w1 ⟨⟨s,rfl,hs⟩,hb⟩;have hbw:=bSz (bAz (Below.refl w.heap.size w) _) hb;have bB:=(Bk.new (w:=w) #[.string { data:=#[] }, .int .i64 0, .int .i64 0, .int .i64 0] 77 rfl).keep hb;obtain ⟨c0,c1,c2,c3⟩:=bB.four';have f0:=bB.free 0;have f1:=bB.free 1;have f2:=bB.free 2;have f3:=bB.free 3;have y0:∀ a,(w1.setCell ⟨w.heap.size,0,none⟩ a).cell? ⟨w.heap.size,0,none⟩=some a:=fun a=>(show Bk _ _ #[a,_,_,_] _ from bB.set 0 a).four'.1;have y1:∀ a b,((w1.setCell ⟨w.heap.size,0,none⟩ a).setCell ⟨w.heap.size,1,none⟩ b).cell? ⟨w.heap.size,1,none⟩=some b:=fun a b=>(show Bk _ _ #[a,b,_,_] _ from (bB.set 0 a).set 1 b).four'.2.1;have y2:∀ a b c,(((w1.setCell ⟨w.heap.size,0,none⟩ a).setCell ⟨w.heap.size,1,none⟩ b).setCell ⟨w.heap.size,2,none⟩ c).cell? ⟨w.heap.size,2,none⟩=some c:=fun a b c=>(show Bk _ _ #[a,b,c,_] _ from ((bB.set 0 a).set 1 b).set 2 c).four'.2.2.1;have y3:∀ a b c d,((((w1.setCell ⟨w.heap.size,0,none⟩ a).setCell ⟨w.heap.size,1,none⟩ b).setCell ⟨w.heap.size,2,none⟩ c).setCell ⟨w.heap.size,3,none⟩ d).cell? ⟨w.heap.size,3,none⟩=some d:=fun a b c d=>(show Bk _ _ #[a,b,c,d] _ from (((bB.set 0 a).set 1 b).set 2 c).set 3 d).four'.2.2.2;clear hb bB;have hs2:¬ (9223372036854775807<2+s.size):=by omega
 go_wp2_with fail;refine bodyPost_ret (by simp [results,Tryd.results58,go_sem,y0,y1,y2,y3];try rfl) rfl ?_;exact ⟨⟨_,rfl⟩,(((hbw.setCell (by simp) _).setCell (by simp) _).setCell (by simp) _).setCell (by simp) _⟩
theorem shape_each:ShapeOf 2 73:=fun n w hn hp=>by
 have hI:=fun (W:World) (hW:Pow W)=>itoa_any n hn.1 hn.2 W hW;have HI:=(show Hid _ from hI);have HP:=(show Hid (Pow w) from hp);clear hI hn hp;go_enter Tryd.func73,Tryd.ntmps73;go_wp2_with fail;refine Calls.mono (HI.out _ (pow_keep HP.out (bAz (Below.refl _ _) _) rfl)) ?_;rintro e w1 ⟨⟨s,rfl,hs⟩,hb⟩;have hbw:=bSz (bAz (Below.refl w.heap.size w) _) hb;have bB:=(Bk.new (w:=w) #[.string { data:=#[] }, .int .i64 0, .int .i64 0, .int .i64 0] 77 rfl).keep hb;obtain ⟨c0,c1,c2,c3⟩:=bB.four';have f0:=bB.free 0;have f1:=bB.free 1;have f2:=bB.free 2;have f3:=bB.free 3;have y0:∀ a,(w1.setCell ⟨w.heap.size,0,none⟩ a).cell? ⟨w.heap.size,0,none⟩=some a:=fun a=>(show Bk _ _ #[a,_,_,_] _ from bB.set 0 a).four'.1;have y1:∀ a b,((w1.setCell ⟨w.heap.size,0,none⟩ a).setCell ⟨w.heap.size,1,none⟩ b).cell? ⟨w.heap.size,1,none⟩=some b:=fun a b=>(show Bk _ _ #[a,b,_,_] _ from (bB.set 0 a).set 1 b).four'.2.1;have y2:∀ a b c,(((w1.setCell ⟨w.heap.size,0,none⟩ a).setCell ⟨w.heap.size,1,none⟩ b).setCell ⟨w.heap.size,2,none⟩ c).cell? ⟨w.heap.size,2,none⟩=some c:=fun a b c=>(show Bk _ _ #[a,b,c,_] _ from ((bB.set 0 a).set 1 b).set 2 c).four'.2.2.1;have y3:∀ a b c d,((((w1.setCell ⟨w.heap.size,0,none⟩ a).setCell ⟨w.heap.size,1,none⟩ b).setCell ⟨w.heap.size,2,none⟩ c).setCell ⟨w.heap.size,3,none⟩ d).cell? ⟨w.heap.size,3,none⟩=some d:=fun a b c d=>(show Bk _ _ #[a,b,c,d] _ from (((bB.set 0 a).set 1 b).set 2 c).set 3 d).four'.2.2.2;clear hb bB;have hs2:¬ (9223372036854775807<4+s.size):=by omega
 go_wp2_with fail;refine bodyPost_ret (by simp [results,Tryd.results73,go_sem,y0,y1,y2,y3];try rfl) rfl ?_;exact ⟨⟨_,rfl⟩,(((hbw.setCell (by simp) _).setCell (by simp) _).setCell (by simp) _).setCell (by simp) _⟩
theorem shape_sum:ShapeOf 6 77:=fun n w hn hp=>by
 have hI:=fun (W:World) (hW:Pow W)=>itoa_any n hn.1 hn.2 W hW;have HI:=(show Hid _ from hI);have HP:=(show Hid (Pow w) from hp);clear hI hn hp;go_enter Tryd.func77,Tryd.ntmps77;go_wp2_with fail;refine Calls.mono (HI.out _ (pow_keep HP.out (bAz (Below.refl _ _) _) rfl)) ?_;rintro e w1 ⟨⟨s,rfl,hs⟩,hb⟩;have hbw:=bSz (bAz (Below.refl w.heap.size w) _) hb;have bB:=(Bk.new (w:=w) #[.string { data:=#[] }, .int .i64 0, .int .i64 0, .int .i64 0] 77 rfl).keep hb;obtain ⟨c0,c1,c2,c3⟩:=bB.four';have f0:=bB.free 0;have f1:=bB.free 1;have f2:=bB.free 2;have f3:=bB.free 3;have y0:∀ a,(w1.setCell ⟨w.heap.size,0,none⟩ a).cell? ⟨w.heap.size,0,none⟩=some a:=fun a=>(show Bk _ _ #[a,_,_,_] _ from bB.set 0 a).four'.1;have y1:∀ a b,((w1.setCell ⟨w.heap.size,0,none⟩ a).setCell ⟨w.heap.size,1,none⟩ b).cell? ⟨w.heap.size,1,none⟩=some b:=fun a b=>(show Bk _ _ #[a,b,_,_] _ from (bB.set 0 a).set 1 b).four'.2.1;have y2:∀ a b c,(((w1.setCell ⟨w.heap.size,0,none⟩ a).setCell ⟨w.heap.size,1,none⟩ b).setCell ⟨w.heap.size,2,none⟩ c).cell? ⟨w.heap.size,2,none⟩=some c:=fun a b c=>(show Bk _ _ #[a,b,c,_] _ from ((bB.set 0 a).set 1 b).set 2 c).four'.2.2.1;have y3:∀ a b c d,((((w1.setCell ⟨w.heap.size,0,none⟩ a).setCell ⟨w.heap.size,1,none⟩ b).setCell ⟨w.heap.size,2,none⟩ c).setCell ⟨w.heap.size,3,none⟩ d).cell? ⟨w.heap.size,3,none⟩=some d:=fun a b c d=>(show Bk _ _ #[a,b,c,d] _ from (((bB.set 0 a).set 1 b).set 2 c).set 3 d).four'.2.2.2;clear hb bB;have hs2:¬ (9223372036854775807<3+s.size):=by omega
 go_wp2_with fail;refine bodyPost_ret (by simp [results,Tryd.results77,go_sem,y0,y1,y2,y3];try rfl) rfl ?_;exact ⟨⟨_,rfl⟩,(((hbw.setCell (by simp) _).setCell (by simp) _).setCell (by simp) _).setCell (by simp) _⟩
theorem shape_both:ShapeOf 3 74:=fun n w _ _=>by
 go_enter Tryd.func74,Tryd.ntmps74;go_wp2_with fail;refine bodyPost_ret (by simp [results,Tryd.results74,go_sem];try rfl) rfl ?_;exact ⟨⟨_,rfl⟩,bAz (Below.refl _ _) _⟩
theorem shape_less:ShapeOf 4 75:=fun n w _ _=>by
 go_enter Tryd.func75,Tryd.ntmps75;go_wp2_with fail;refine bodyPost_ret (by simp [results,Tryd.results75,go_sem];try rfl) rfl ?_;exact ⟨⟨_,rfl⟩,bAz (Below.refl _ _) _⟩
theorem shape_join:ShapeOf 5 76:=fun n w _ _=>by
 go_enter Tryd.func76,Tryd.ntmps76;go_wp2_with fail;refine bodyPost_ret (by simp [results,Tryd.results76,go_sem];try rfl) rfl ?_;exact ⟨⟨_,rfl⟩,bAz (Below.refl _ _) _⟩
structure KindIs (k:Int) (T F:Nat):Prop where
 shape:ShapeOf k F
 meth:∀ (v:Value) (w:World),(Go.method 258 T v "loop.example/tideline/impl.shape").run Tryd.prog w= .ok (F,v) w
 enters:∀ args w,(callFunc F args).run Tryd.prog w= .ok (.enter F args) w
 kind:∀ (n:Int) (s:Value) (w:World),Calls Tryd.prog 39 #[pl k n s] w fun e w'=>e= .returned (.tuple #[.iface T (.int .i64 n), .nilIface])/\Below w.heap.size w w'
theorem kind_in:KindIs 1 84 58 where
 shape:=shape_in
 meth:=fun v w=>by kernel_rfl
 enters:=enters_of Tryd.func58 (by kernel_rfl) rfl
 kind:=fun n s w=>by
  obtain ⟨x0,x1,x2⟩:=(pl_box w 1 n s).three';go_enter Tryd.func39,Tryd.ntmps39;go_wp2_with fail;refine bodyPost_ret (by simp [results,Tryd.results39,go_sem];try rfl) rfl ?_;exact ⟨rfl,bAz (Below.refl _ _) _⟩
theorem kind_each:KindIs 2 85 73 where
 shape:=shape_each
 meth:=fun v w=>by kernel_rfl
 enters:=enters_of Tryd.func73 (by kernel_rfl) rfl
 kind:=fun n s w=>by
  obtain ⟨x0,x1,x2⟩:=(pl_box w 2 n s).three';go_enter Tryd.func39,Tryd.ntmps39;go_wp2_with fail;refine bodyPost_ret (by simp [results,Tryd.results39,go_sem];try rfl) rfl ?_;exact ⟨rfl,bAz (Below.refl _ _) _⟩
theorem kind_both:KindIs 3 86 74 where
 shape:=shape_both
 meth:=fun v w=>by kernel_rfl
 enters:=enters_of Tryd.func74 (by kernel_rfl) rfl
 kind:=fun n s w=>by
  obtain ⟨x0,x1,x2⟩:=(pl_box w 3 n s).three';go_enter Tryd.func39,Tryd.ntmps39;go_wp2_with fail;refine bodyPost_ret (by simp [results,Tryd.results39,go_sem];try rfl) rfl ?_;exact ⟨rfl,bAz (Below.refl _ _) _⟩
theorem kind_less:KindIs 4 87 75 where
 shape:=shape_less
 meth:=fun v w=>by kernel_rfl
 enters:=enters_of Tryd.func75 (by kernel_rfl) rfl
 kind:=fun n s w=>by
  obtain ⟨x0,x1,x2⟩:=(pl_box w 4 n s).three';go_enter Tryd.func39,Tryd.ntmps39;go_wp2_with fail;refine bodyPost_ret (by simp [results,Tryd.results39,go_sem];try rfl) rfl ?_;exact ⟨rfl,bAz (Below.refl _ _) _⟩
theorem kind_join:KindIs 5 88 76 where
 shape:=shape_join
 meth:=fun v w=>by kernel_rfl
 enters:=enters_of Tryd.func76 (by kernel_rfl) rfl
 kind:=fun n s w=>by
  obtain ⟨x0,x1,x2⟩:=(pl_box w 5 n s).three';go_enter Tryd.func39,Tryd.ntmps39;go_wp2_with fail;refine bodyPost_ret (by simp [results,Tryd.results39,go_sem];try rfl) rfl ?_;exact ⟨rfl,bAz (Below.refl _ _) _⟩
theorem kind_sum:KindIs 6 89 77 where
 shape:=shape_sum
 meth:=fun v w=>by kernel_rfl
 enters:=enters_of Tryd.func77 (by kernel_rfl) rfl
 kind:=fun n s w=>by
  obtain ⟨x0,x1,x2⟩:=(pl_box w 6 n s).three';go_enter Tryd.func39,Tryd.ntmps39;go_wp2_with fail;refine bodyPost_ret (by simp [results,Tryd.results39,go_sem];try rfl) rfl ?_;exact ⟨rfl,bAz (Below.refl _ _) _⟩
end An
end Go.Proofs.YtbdpcngcbnoioaaDoor
