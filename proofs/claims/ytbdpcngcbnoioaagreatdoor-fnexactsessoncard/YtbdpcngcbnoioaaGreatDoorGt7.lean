import Derived.Test.YtbdpcngcbnoioaaGreatDoorGtX
import Derived.Laws.EntriesVeiled
set_option maxHeartbeats 4000000
namespace Go.Proofs.YtbdpcngcbnoioaaGreatDoor
open Go.RowKit
theorem ret_way {a b c d:Int} {x y:Bool} (h1:a=c) (h2:b=d) (h3:x=y):Ending.returned (.tuple #[.agg #[.int .i64 a, .int .i64 b], .bool x])= .returned (.tuple #[.agg #[.int .i64 c, .int .i64 d], .bool y]):=by rw [h1,h2,h3]
abbrev thC (K V:Int):Obj:= .cells #[.int .i64 K, .int .i64 V] 131
theorem th_box (K V:Int) (w:World):Bk ((w.alloc (thC K V)).alloc (thC 0 0)) w.heap.size #[.int .i64 K, .int .i64 V] 131/\Bk ((w.alloc (thC K V)).alloc (thC 0 0)) (w.heap.size+1) #[.int .i64 0, .int .i64 0] 131/\Below w.heap.size w ((w.alloc (thC K V)).alloc (thC 0 0)) :=
 ⟨(Bk.new _ _ rfl).alloc _,Bk.new _ _ (by simp),bAz (bAz (Below.refl _ _) _) _⟩
theorem way1_any (K V:Int) (w:World) (hk0:0<=K) (hk1:K<=3) (hv0:0<=V) (hv1:V<=99) :
  Calls Tryz.prog 215 #[.agg #[.int .i64 K, .int .i64 V]] w fun e w'=>e= .returned (.tuple #[.agg #[.int .i64 (wayM 1 (K,V)).1, .int .i64 (wayM 1 (K,V)).2], .bool (wayP 1 (K,V))])/\Below w.heap.size w w':=by
 have _u:(0<=K/\K<=3)/\(0<=V/\V<=99):=⟨⟨hk0,hk1⟩,⟨hv0,hv1⟩⟩;obtain ⟨bi,br,hb⟩:=th_box K V w;obtain ⟨i0,i1,_,_⟩:=bi.two;obtain ⟨r0,r1,f0,f1⟩:=br.two;have ne:w.heap.size≠w.heap.size+1:=by omega
 go_enter Tryz.func215,Tryz.ntmps215
 go_upto_region 1 with fail
 generalize ((w.alloc (thC K V)).alloc (thC 0 0))=wb at *;go_wp2_with fail;refine bodyPost_ret (by simp [results,Tryz.results215,go_sem,set1a br,set2b br];try rfl) rfl ?_;refine ⟨ret_way ?_ ?_ ?_,(hb.setCell (by simp) _).setCell (by simp) _⟩
 all_goals simp only [wayM,wayP]
 all_goals (simp<;>omega)
theorem way2_any (K V:Int) (w:World) (hk0:0<=K) (hk1:K<=3) (hv0:0<=V) (hv1:V<=99) :
  Calls Tryz.prog 216 #[.agg #[.int .i64 K, .int .i64 V]] w fun e w'=>e= .returned (.tuple #[.agg #[.int .i64 (wayM 2 (K,V)).1, .int .i64 (wayM 2 (K,V)).2], .bool (wayP 2 (K,V))])/\Below w.heap.size w w':=by
 have _u:(0<=K/\K<=3)/\(0<=V/\V<=99):=⟨⟨hk0,hk1⟩,⟨hv0,hv1⟩⟩;obtain ⟨bi,br,hb⟩:=th_box K V w;obtain ⟨i0,i1,_,_⟩:=bi.two;obtain ⟨r0,r1,f0,f1⟩:=br.two;have ne:w.heap.size≠w.heap.size+1:=by omega
 go_enter Tryz.func216,Tryz.ntmps216
 go_upto_region 1 with fail
 generalize ((w.alloc (thC K V)).alloc (thC 0 0))=wb at *;have iw:IntKind.i64.wrap (V+1)=V+1:=by rw [IntKind.wrap_i64];omega
 have HX:Hid (∀ W,Below wb.heap.size wb W->W.cell? ⟨w.heap.size,0,none⟩=some (.int .i64 K)/\W.cell? ⟨w.heap.size,1,none⟩=some (.int .i64 V)):=fun W hW=>⟨(bi.keep hW).two.1,(bi.keep hW).two.2.1⟩;have hbD:Below wb.heap.size wb wb.drew:=(Below.refl _ _).drew;clear i0 i1 r0 r1 f0 f1;obtain ⟨i0,i1⟩:=HX.out _ hbD
 go_region_held3 (fun W=>W.cell? ⟨w.heap.size,0,none⟩=some (.int .i64 K)/\W.cell? ⟨w.heap.size,1,none⟩=some (.int .i64 V))
  (first|exact HX.out _ hbD|exact HX.out _ hbna|exact ⟨cell_apart (cell_apart (HX.out _ hbna).1 (by simp)) (by simp),cell_apart (cell_apart (HX.out _ hbna).2 (by simp)) (by simp)⟩)
  (first
   | (go_at_call 235;refine (valOf_any (V+1) _).mono ?_;rintro e wa ⟨rfl,hba⟩;have hbna:=bSz hbD hba;have br2:=br.keep hbna;obtain ⟨r0,r1,f0,f1⟩:=br2.two))
 have bo:=br2.set01 (.int .i64 K) (.int .i64 ((V+1)%100));have hbo:Below w.heap.size w ((wa.setCell ⟨w.heap.size+1,0,none⟩ (.int .i64 K)).setCell ⟨w.heap.size+1,1,none⟩ (.int .i64 ((V+1)%100))):=((hb.trans (hbna.mono hb.size)).setCell (by simp) _).setCell (by simp) _;obtain ⟨y0,y1,_,_⟩:=bo.two;go_wp2_with fail;refine bodyPost_ret (v:= .tuple #[.agg #[.int .i64 K, .int .i64 ((V+1)%100)], .bool true]) (by simp [results,Tryz.results216,go_sem,y0,y1]) rfl ?_;exact ⟨rfl,hbo⟩
theorem way3_any (K V:Int) (w:World) (hk0:0<=K) (hk1:K<=3) (hv0:0<=V) (hv1:V<=99) :
  Calls Tryz.prog 217 #[.agg #[.int .i64 K, .int .i64 V]] w fun e w'=>e= .returned (.tuple #[.agg #[.int .i64 (wayM 3 (K,V)).1, .int .i64 (wayM 3 (K,V)).2], .bool (wayP 3 (K,V))])/\Below w.heap.size w w':=by
 have _u:(0<=K/\K<=3)/\(0<=V/\V<=99):=⟨⟨hk0,hk1⟩,⟨hv0,hv1⟩⟩;obtain ⟨bi,br,hb⟩:=th_box K V w;obtain ⟨i0,i1,_,_⟩:=bi.two;obtain ⟨r0,r1,f0,f1⟩:=br.two;have ne:w.heap.size≠w.heap.size+1:=by omega
 go_enter Tryz.func217,Tryz.ntmps217
 go_upto_region 1 with fail
 generalize ((w.alloc (thC K V)).alloc (thC 0 0))=wb at *;go_wp2_with fail;refine bodyPost_ret (by simp [results,Tryz.results217,go_sem,set1a br,set2b br];try rfl) rfl ?_;refine ⟨ret_way ?_ ?_ ?_,(hb.setCell (by simp) _).setCell (by simp) _⟩
 all_goals simp only [wayM,wayP]
 all_goals (simp<;>omega)
theorem way4_any (K V:Int) (w:World) (hk0:0<=K) (hk1:K<=3) (hv0:0<=V) (hv1:V<=99) :
  Calls Tryz.prog 218 #[.agg #[.int .i64 K, .int .i64 V]] w fun e w'=>e= .returned (.tuple #[.agg #[.int .i64 (wayM 4 (K,V)).1, .int .i64 (wayM 4 (K,V)).2], .bool (wayP 4 (K,V))])/\Below w.heap.size w w':=by
 have _u:(0<=K/\K<=3)/\(0<=V/\V<=99):=⟨⟨hk0,hk1⟩,⟨hv0,hv1⟩⟩;obtain ⟨bi,br,hb⟩:=th_box K V w;obtain ⟨i0,i1,_,_⟩:=bi.two;obtain ⟨r0,r1,f0,f1⟩:=br.two;have ne:w.heap.size≠w.heap.size+1:=by omega
 go_enter Tryz.func218,Tryz.ntmps218
 go_upto_region 1 with fail
 generalize ((w.alloc (thC K V)).alloc (thC 0 0))=wb at *;go_wp2_with fail;refine bodyPost_ret (by simp [results,Tryz.results218,go_sem,set1a br,set2b br];try rfl) rfl ?_;refine ⟨ret_way ?_ ?_ ?_,(hb.setCell (by simp) _).setCell (by simp) _⟩
 all_goals simp only [wayM,wayP]
 all_goals (simp<;>omega)
theorem way5_any (K V:Int) (w:World) (hk0:0<=K) (hk1:K<=3) (hv0:0<=V) (hv1:V<=99) :
  Calls Tryz.prog 219 #[.agg #[.int .i64 K, .int .i64 V]] w fun e w'=>e= .returned (.tuple #[.agg #[.int .i64 (wayM 5 (K,V)).1, .int .i64 (wayM 5 (K,V)).2], .bool (wayP 5 (K,V))])/\Below w.heap.size w w':=by
 have _u:(0<=K/\K<=3)/\(0<=V/\V<=99):=⟨⟨hk0,hk1⟩,⟨hv0,hv1⟩⟩;obtain ⟨bi,br,hb⟩:=th_box K V w;obtain ⟨i0,i1,_,_⟩:=bi.two;obtain ⟨r0,r1,f0,f1⟩:=br.two;have ne:w.heap.size≠w.heap.size+1:=by omega
 go_enter Tryz.func219,Tryz.ntmps219
 go_upto_region 1 with fail
 generalize ((w.alloc (thC K V)).alloc (thC 0 0))=wb at *
 go_region
 have bo:=(br.set01 (.int .i64 K) (.int .i64 V)).drew;have hbo:Below w.heap.size w ((wb.setCell ⟨w.heap.size+1,0,none⟩ (.int .i64 K)).setCell ⟨w.heap.size+1,1,none⟩ (.int .i64 V)).drew:=((hb.setCell (by simp) _).setCell (by simp) _).drew;obtain ⟨y0,y1,_,_⟩:=bo.two;go_wp2_with fail;refine bodyPost_ret (v:= .tuple #[.agg #[.int .i64 K, .int .i64 V], .bool (V%2==0)]) (by simp [results,Tryz.results219,go_sem,y0,y1]) rfl ?_;refine ⟨ret_way (by simp [wayM]) (by simp [wayM]) ?_,hbo⟩;simp [wayP]<;>(rw [Bool.eq_iff_iff];simp)
theorem way6_any (K V:Int) (w:World) (hk0:0<=K) (hk1:K<=3) (hv0:0<=V) (hv1:V<=99) :
  Calls Tryz.prog 220 #[.agg #[.int .i64 K, .int .i64 V]] w fun e w'=>e= .returned (.tuple #[.agg #[.int .i64 (wayM 6 (K,V)).1, .int .i64 (wayM 6 (K,V)).2], .bool (wayP 6 (K,V))])/\Below w.heap.size w w':=by
 have _u:(0<=K/\K<=3)/\(0<=V/\V<=99):=⟨⟨hk0,hk1⟩,⟨hv0,hv1⟩⟩;obtain ⟨bi,br,hb⟩:=th_box K V w;obtain ⟨i0,i1,_,_⟩:=bi.two;obtain ⟨r0,r1,f0,f1⟩:=br.two;have ne:w.heap.size≠w.heap.size+1:=by omega
 go_enter Tryz.func220,Tryz.ntmps220
 go_upto_region 1 with fail
 generalize ((w.alloc (thC K V)).alloc (thC 0 0))=wb at *
 go_region
 have bo:=(br.set01 (.int .i64 K) (.int .i64 V)).drew;have hbo:Below w.heap.size w ((wb.setCell ⟨w.heap.size+1,0,none⟩ (.int .i64 K)).setCell ⟨w.heap.size+1,1,none⟩ (.int .i64 V)).drew:=((hb.setCell (by simp) _).setCell (by simp) _).drew;obtain ⟨y0,y1,_,_⟩:=bo.two;go_wp2_with fail;refine bodyPost_ret (v:= .tuple #[.agg #[.int .i64 K, .int .i64 V], .bool (K%2==0)]) (by simp [results,Tryz.results220,go_sem,y0,y1]) rfl ?_;refine ⟨ret_way (by simp [wayM]) (by simp [wayM]) ?_,hbo⟩;simp [wayP]<;>(rw [Bool.eq_iff_iff];simp)
theorem way7_any (K V:Int) (w:World) (hk0:0<=K) (hk1:K<=3) (hv0:0<=V) (hv1:V<=99) :
  Calls Tryz.prog 221 #[.agg #[.int .i64 K, .int .i64 V]] w fun e w'=>e= .returned (.tuple #[.agg #[.int .i64 (wayM 7 (K,V)).1, .int .i64 (wayM 7 (K,V)).2], .bool (wayP 7 (K,V))])/\Below w.heap.size w w':=by
 have _u:(0<=K/\K<=3)/\(0<=V/\V<=99):=⟨⟨hk0,hk1⟩,⟨hv0,hv1⟩⟩;obtain ⟨bi,br,hb⟩:=th_box K V w;obtain ⟨i0,i1,_,_⟩:=bi.two;obtain ⟨r0,r1,f0,f1⟩:=br.two;have ne:w.heap.size≠w.heap.size+1:=by omega
 go_enter Tryz.func221,Tryz.ntmps221
 go_upto_region 1 with fail
 generalize ((w.alloc (thC K V)).alloc (thC 0 0))=wb at *
 go_region
 have bo:=(br.set01 (.int .i64 K) (.int .i64 V)).drew;have hbo:Below w.heap.size w ((wb.setCell ⟨w.heap.size+1,0,none⟩ (.int .i64 K)).setCell ⟨w.heap.size+1,1,none⟩ (.int .i64 V)).drew:=((hb.setCell (by simp) _).setCell (by simp) _).drew;obtain ⟨y0,y1,_,_⟩:=bo.two;go_wp2_with fail;refine bodyPost_ret (v:= .tuple #[.agg #[.int .i64 K, .int .i64 V], .bool (decide (V<10))]) (by simp [results,Tryz.results221,go_sem,y0,y1]) rfl ?_;refine ⟨ret_way (by simp [wayM]) (by simp [wayM]) ?_,hbo⟩;simp [wayP]<;>(rw [Bool.eq_iff_iff];simp)
theorem ret_one {a b c d:Int} {x y:Bool} (h1:a=c) (h2:b=d) (h3:x=y):Ending.returned (.tuple #[.int .i64 a, .int .i64 b, .bool x])= .returned (.tuple #[.int .i64 c, .int .i64 d, .bool y]):=by rw [h1,h2,h3]
theorem l3One_1 (K V:Int) (w:World) (hk0:0<=K) (hk1:K<=3) (hv0:0<=V) (hv1:V<=99) :
  Calls Tryz.prog 228 #[.int .i64 K, .int .i64 V, .int .i64 1] w fun e w'=>e= .returned (.tuple #[.int .i64 (wayM 1 (K,V)).1, .int .i64 (wayM 1 (K,V)).2, .bool (wayP 1 (K,V))])/\Below w.heap.size w w':=by
 have _u:(0<=K/\K<=3)/\(0<=V/\V<=99):=⟨⟨hk0,hk1⟩,⟨hv0,hv1⟩⟩;go_enter Tryz.func228,Tryz.ntmps228;go_wp2_with fail;refine bodyPost_ret (by simp [results,Tryz.results228,go_sem];try rfl) rfl ?_;refine ⟨ret_one ?_ ?_ ?_,Below.refl _ _⟩
 all_goals simp only [wayM,wayP]
 all_goals first|(simp;done)|(simp;omega)|(rw [Bool.eq_iff_iff];simp)
theorem l3One_2 (K V:Int) (w:World) (hk0:0<=K) (hk1:K<=3) (hv0:0<=V) (hv1:V<=99) :
  Calls Tryz.prog 228 #[.int .i64 K, .int .i64 V, .int .i64 2] w fun e w'=>e= .returned (.tuple #[.int .i64 (wayM 2 (K,V)).1, .int .i64 (wayM 2 (K,V)).2, .bool (wayP 2 (K,V))])/\Below w.heap.size w w':=by
 have _u:(0<=K/\K<=3)/\(0<=V/\V<=99):=⟨⟨hk0,hk1⟩,⟨hv0,hv1⟩⟩;go_enter Tryz.func228,Tryz.ntmps228;go_wp2_with fail;refine bodyPost_ret (by simp [results,Tryz.results228,go_sem];try rfl) rfl ?_;refine ⟨ret_one ?_ ?_ ?_,Below.refl _ _⟩
 all_goals simp only [wayM,wayP]
 all_goals first|(simp;done)|(simp;omega)|(rw [Bool.eq_iff_iff];simp)
theorem l3One_3 (K V:Int) (w:World) (hk0:0<=K) (hk1:K<=3) (hv0:0<=V) (hv1:V<=99) :
  Calls Tryz.prog 228 #[.int .i64 K, .int .i64 V, .int .i64 3] w fun e w'=>e= .returned (.tuple #[.int .i64 (wayM 3 (K,V)).1, .int .i64 (wayM 3 (K,V)).2, .bool (wayP 3 (K,V))])/\Below w.heap.size w w':=by
 have _u:(0<=K/\K<=3)/\(0<=V/\V<=99):=⟨⟨hk0,hk1⟩,⟨hv0,hv1⟩⟩;go_enter Tryz.func228,Tryz.ntmps228;go_wp2_with fail;refine bodyPost_ret (by simp [results,Tryz.results228,go_sem];try rfl) rfl ?_;refine ⟨ret_one ?_ ?_ ?_,Below.refl _ _⟩
 all_goals simp only [wayM,wayP]
 all_goals first|(simp;done)|(simp;omega)|(rw [Bool.eq_iff_iff];simp)
theorem l3One_4 (K V:Int) (w:World) (hk0:0<=K) (hk1:K<=3) (hv0:0<=V) (hv1:V<=99) :
  Calls Tryz.prog 228 #[.int .i64 K, .int .i64 V, .int .i64 4] w fun e w'=>e= .returned (.tuple #[.int .i64 (wayM 4 (K,V)).1, .int .i64 (wayM 4 (K,V)).2, .bool (wayP 4 (K,V))])/\Below w.heap.size w w':=by
 have _u:(0<=K/\K<=3)/\(0<=V/\V<=99):=⟨⟨hk0,hk1⟩,⟨hv0,hv1⟩⟩;go_enter Tryz.func228,Tryz.ntmps228;go_wp2_with fail;refine bodyPost_ret (by simp [results,Tryz.results228,go_sem];try rfl) rfl ?_;refine ⟨ret_one ?_ ?_ ?_,Below.refl _ _⟩
 all_goals simp only [wayM,wayP]
 all_goals first|(simp;done)|(simp;omega)|(rw [Bool.eq_iff_iff];simp)
theorem l3One_5 (K V:Int) (w:World) (hk0:0<=K) (hk1:K<=3) (hv0:0<=V) (hv1:V<=99) :
  Calls Tryz.prog 228 #[.int .i64 K, .int .i64 V, .int .i64 5] w fun e w'=>e= .returned (.tuple #[.int .i64 (wayM 5 (K,V)).1, .int .i64 (wayM 5 (K,V)).2, .bool (wayP 5 (K,V))])/\Below w.heap.size w w':=by
 have _u:(0<=K/\K<=3)/\(0<=V/\V<=99):=⟨⟨hk0,hk1⟩,⟨hv0,hv1⟩⟩;go_enter Tryz.func228,Tryz.ntmps228;go_wp2_with fail;refine bodyPost_ret (by simp [results,Tryz.results228,go_sem];try rfl) rfl ?_;refine ⟨ret_one ?_ ?_ ?_,Below.refl _ _⟩
 all_goals simp only [wayM,wayP]
 all_goals first|(simp;done)|(simp;omega)|(rw [Bool.eq_iff_iff];simp)
theorem l3One_6 (K V:Int) (w:World) (hk0:0<=K) (hk1:K<=3) (hv0:0<=V) (hv1:V<=99) :
  Calls Tryz.prog 228 #[.int .i64 K, .int .i64 V, .int .i64 6] w fun e w'=>e= .returned (.tuple #[.int .i64 (wayM 6 (K,V)).1, .int .i64 (wayM 6 (K,V)).2, .bool (wayP 6 (K,V))])/\Below w.heap.size w w':=by
 have _u:(0<=K/\K<=3)/\(0<=V/\V<=99):=⟨⟨hk0,hk1⟩,⟨hv0,hv1⟩⟩;go_enter Tryz.func228,Tryz.ntmps228;go_wp2_with fail;refine bodyPost_ret (by simp [results,Tryz.results228,go_sem];try rfl) rfl ?_;refine ⟨ret_one ?_ ?_ ?_,Below.refl _ _⟩
 all_goals simp only [wayM,wayP]
 all_goals first|(simp;done)|(simp;omega)|(rw [Bool.eq_iff_iff];simp)
theorem l3One_7 (K V:Int) (w:World) (hk0:0<=K) (hk1:K<=3) (hv0:0<=V) (hv1:V<=99) :
  Calls Tryz.prog 228 #[.int .i64 K, .int .i64 V, .int .i64 7] w fun e w'=>e= .returned (.tuple #[.int .i64 (wayM 7 (K,V)).1, .int .i64 (wayM 7 (K,V)).2, .bool (wayP 7 (K,V))])/\Below w.heap.size w w':=by
 have _u:(0<=K/\K<=3)/\(0<=V/\V<=99):=⟨⟨hk0,hk1⟩,⟨hv0,hv1⟩⟩;go_enter Tryz.func228,Tryz.ntmps228;go_wp2_with fail;refine bodyPost_ret (by simp [results,Tryz.results228,go_sem];try rfl) rfl ?_;refine ⟨ret_one ?_ ?_ ?_,Below.refl _ _⟩
 all_goals simp only [wayM,wayP]
 all_goals first|(simp;done)|(simp;omega)|(rw [Bool.eq_iff_iff];simp)
theorem l3One_eq {K V how:Int} {r:Bool} (h:wayP how (K,V)=r) (hw:inB how 1 7=true) (hk:itK (K,V)) (w:World) :
  Calls Tryz.prog 228 #[.int .i64 K, .int .i64 V, .int .i64 how] w fun e w'=>e= .returned (.tuple #[.int .i64 (wayM how (K,V)).1, .int .i64 (wayM how (K,V)).2, .bool r])/\Below w.heap.size w w':=by
 rw [<- h];obtain ⟨h1,h2,h3,h4⟩:=hk;simp only [inB,decide_eq_true_eq] at hw;obtain rfl|rfl|rfl|rfl|rfl|rfl|rfl:how=1\/how=2\/how=3\/how=4\/how=5\/how=6\/how=7:=by omega
 ·exact l3One_1 K V w h1 h2 h3 h4
 ·exact l3One_2 K V w h1 h2 h3 h4
 ·exact l3One_3 K V w h1 h2 h3 h4
 ·exact l3One_4 K V w h1 h2 h3 h4
 ·exact l3One_5 K V w h1 h2 h3 h4
 ·exact l3One_6 K V w h1 h2 h3 h4
 ·exact l3One_7 K V w h1 h2 h3 h4
open Go.ChangeMaps (setBlock)
theorem wayOf_1 (w:World):Calls Tryz.prog 171 #[.int .i64 1] w fun e w'=>e= .returned (.tuple #[.func (.func 215) #[] #[], .bool true])/\Below w.heap.size w w':=by
 go_enter Tryz.func171,Tryz.ntmps171;go_wp2_with fail;refine bodyPost_ret (by simp [results,Tryz.results171,go_sem];try rfl) rfl ?_;exact ⟨rfl,bAz (Below.refl _ _) _⟩
theorem wayOf_2 (w:World):Calls Tryz.prog 171 #[.int .i64 2] w fun e w'=>e= .returned (.tuple #[.func (.func 216) #[] #[], .bool true])/\Below w.heap.size w w':=by
 go_enter Tryz.func171,Tryz.ntmps171;go_wp2_with fail;refine bodyPost_ret (by simp [results,Tryz.results171,go_sem];try rfl) rfl ?_;exact ⟨rfl,bAz (Below.refl _ _) _⟩
theorem wayOf_3 (w:World):Calls Tryz.prog 171 #[.int .i64 3] w fun e w'=>e= .returned (.tuple #[.func (.func 217) #[] #[], .bool true])/\Below w.heap.size w w':=by
 go_enter Tryz.func171,Tryz.ntmps171;go_wp2_with fail;refine bodyPost_ret (by simp [results,Tryz.results171,go_sem];try rfl) rfl ?_;exact ⟨rfl,bAz (Below.refl _ _) _⟩
open Go.ChangeMaps (setBlock)
theorem wayOf_4 (w:World):Calls Tryz.prog 171 #[.int .i64 4] w fun e w'=>e= .returned (.tuple #[.func (.func 218) #[] #[], .bool true])/\Below w.heap.size w w':=by
 go_enter Tryz.func171,Tryz.ntmps171;go_wp2_with fail;refine bodyPost_ret (by simp [results,Tryz.results171,go_sem];try rfl) rfl ?_;exact ⟨rfl,bAz (Below.refl _ _) _⟩
theorem wayOf_5 (w:World):Calls Tryz.prog 171 #[.int .i64 5] w fun e w'=>e= .returned (.tuple #[.func (.func 219) #[] #[], .bool true])/\Below w.heap.size w w':=by
 go_enter Tryz.func171,Tryz.ntmps171;go_wp2_with fail;refine bodyPost_ret (by simp [results,Tryz.results171,go_sem];try rfl) rfl ?_;exact ⟨rfl,bAz (Below.refl _ _) _⟩
theorem wayOf_6 (w:World):Calls Tryz.prog 171 #[.int .i64 6] w fun e w'=>e= .returned (.tuple #[.func (.func 220) #[] #[], .bool true])/\Below w.heap.size w w':=by
 go_enter Tryz.func171,Tryz.ntmps171;go_wp2_with fail;refine bodyPost_ret (by simp [results,Tryz.results171,go_sem];try rfl) rfl ?_;exact ⟨rfl,bAz (Below.refl _ _) _⟩
theorem wayOf_7 (w:World):Calls Tryz.prog 171 #[.int .i64 7] w fun e w'=>e= .returned (.tuple #[.func (.func 221) #[] #[], .bool true])/\Below w.heap.size w w':=by
 go_enter Tryz.func171,Tryz.ntmps171;go_wp2_with fail;refine bodyPost_ret (by simp [results,Tryz.results171,go_sem];try rfl) rfl ?_;exact ⟨rfl,bAz (Below.refl _ _) _⟩
end Go.Proofs.YtbdpcngcbnoioaaGreatDoor
