import Derived.Test.YtbdpcngcbnoioaaGreatDoorGa1
import Derived.BigRegion
import Derived.Test.YtbdpcngcbnoioaaGreatDoorGa5
import Derived.Deep.RegionWith
import Derived.Test.YtbdpcngcbnoioaaGreatDoorGa4
set_option maxHeartbeats 8000000
namespace Go.Proofs.YtbdpcngcbnoioaaGreatDoor
open Go.RowKit
attribute [local go_sem ↓] Go.wp_at_zero Go.wp_at_succ
theorem implLess_any (a b c d:Int) (w:World) :
  Calls Tryz.prog 90 #[tv a b,tv c d] w fun e w'=>e= .returned (.bool (leB a b c d))/\Below w.heap.size w w':=by
 have H:Hid (leB a b c d=(okB a b&&okB c d&&decide (a<=c)&&decide (b<=d))):=rfl;cases hs:okB a b
 ·go_enter Tryz.func90,Tryz.ntmps90;go_wp2_with fail;refine (implOk_any _ _ _).mono ?_;rintro e w1 ⟨rfl,hb1⟩;go_wp2_with fail;go_ret;refine ⟨rB (by rw [H.out];simp [hs]),?_⟩
  repeat' (first|(with_reducible exact Below.refl _ _)|(with_reducible assumption)|(with_reducible refine bSz ?_ (by with_reducible assumption))|(with_reducible refine bAz ?_ _)|(with_reducible refine Below.drew ?_)|(with_reducible refine bDz ?_ _)|(with_reducible refine Below.setCell ?_ ?_ _)|(simp;done)|(simp;omega)|omega)
 ·cases ht:okB c d
  ·go_enter Tryz.func90,Tryz.ntmps90;go_wp2_with fail;refine (implOk_any _ _ _).mono ?_;rintro e w1 ⟨rfl,hb1⟩;obtain ⟨bs,bt⟩:=boxed2 hb1;obtain ⟨t0,t1,_,_⟩:=bt.two;go_wp2_with fail;refine (implOk_any _ _ _).mono ?_;rintro e w2 ⟨rfl,hb2⟩;go_wp2_with fail;go_ret;refine ⟨rB (by rw [H.out];simp [ht]),?_⟩
   repeat' (first|(with_reducible exact Below.refl _ _)|(with_reducible assumption)|(with_reducible refine bSz ?_ (by with_reducible assumption))|(with_reducible refine bAz ?_ _)|(with_reducible refine Below.drew ?_)|(with_reducible refine bDz ?_ _)|(with_reducible refine Below.setCell ?_ ?_ _)|(simp;done)|(simp;omega)|omega)
  ·go_enter Tryz.func90,Tryz.ntmps90;go_wp2_with fail;refine (implOk_any _ _ _).mono ?_;rintro e w1 ⟨rfl,hb1⟩;obtain ⟨bs,bt⟩:=boxed2 hb1;obtain ⟨s0,s1,_,_⟩:=bs.two;obtain ⟨t0,t1,_,_⟩:=bt.two;go_wp2_with fail;refine (implOk_any _ _ _).mono ?_;rintro e w2 ⟨rfl,hb2⟩;have bs2:=bs.keep hb2;have bt2:=bt.keep hb2;have ls:=bs2.lt;have lt:=bt2.lt;obtain ⟨x0,x1,_,_⟩:=bs2.two;obtain ⟨y0,y1,_,_⟩:=bt2.two;go_wp2_with fail
   go_cut [5,6] (fun p q wc=>∃ g h:Nat,p= .pointer (some ⟨g,0,none⟩)/\q= .pointer (some ⟨h,0,none⟩)/\g≠h/\w2.heap.size<=g/\w2.heap.size<=h/\Bk wc g #[.int .i64 a, .int .i64 b] 154/\Bk wc h #[.int .i64 c, .int .i64 d] 154/\Below w2.heap.size w2 wc)
   case first =>
    go_region_held3 (fun w'=>w'.cell? ⟨w.heap.size,0,none⟩=some (.int .i64 a)/\w'.cell? ⟨w.heap.size,1,none⟩=some (.int .i64 b)/\w'.cell? ⟨w.heap.size+1,0,none⟩=some (.int .i64 c)/\w'.cell? ⟨w.heap.size+1,1,none⟩=some (.int .i64 d)) (refine ⟨?_,?_,?_,?_⟩<;>repeat' (first|with_reducible assumption|with_reducible refine cell_drew ?_|with_reducible refine cell_alloc ?_|with_reducible refine cell_apart ?_ (by simp;omega))) (first|(go_at_call 135;refine (numbersOf_any _ _ _).mono ?_;rintro e w' ⟨rfl,rfl⟩))
    all_goals
     go_wp2_with fail
     go_meet
     case rel =>
      refine ⟨_,_,rfl,rfl,?_,?_,?_,?_,?_,?_⟩
      ·first|omega|(simp;done)|(simp;omega)
      ·first|omega|(simp;done)|(simp;omega)
      ·first|omega|(simp;done)|(simp;omega)
      ·repeat' (first|(with_reducible refine Bk.drew ?_)|(with_reducible refine Bk.drewN ?_ _)|(with_reducible refine Bk.new _ _ ?_;(first|with_reducible rfl|omega|(simp;done)|(simp;omega)))|(with_reducible refine Bk.alloc ?_ _)|(with_reducible refine Bk2.set01 ?_ _ _)|(with_reducible refine Bk2.drew ?_)|(with_reducible refine Bk2.new _ _ _ ?_;(first|with_reducible rfl|omega|(simp;done)|(simp;omega)))|(with_reducible refine Bk2.alloc ?_ _)|(with_reducible refine Bk2.keep ?_ (by with_reducible assumption))|(with_reducible refine Bk.keep ?_ (by with_reducible assumption)))
      ·repeat' (first|(with_reducible refine Bk.drew ?_)|(with_reducible refine Bk.drewN ?_ _)|(with_reducible refine Bk.new _ _ ?_;(first|with_reducible rfl|omega|(simp;done)|(simp;omega)))|(with_reducible refine Bk.alloc ?_ _)|(with_reducible refine Bk2.set01 ?_ _ _)|(with_reducible refine Bk2.drew ?_)|(with_reducible refine Bk2.new _ _ _ ?_;(first|with_reducible rfl|omega|(simp;done)|(simp;omega)))|(with_reducible refine Bk2.alloc ?_ _)|(with_reducible refine Bk2.keep ?_ (by with_reducible assumption))|(with_reducible refine Bk.keep ?_ (by with_reducible assumption)))
      ·repeat' (first|(with_reducible exact Below.refl _ _)|(with_reducible assumption)|(with_reducible refine bSz ?_ (by with_reducible assumption))|(with_reducible refine bAz ?_ _)|(with_reducible refine Below.drew ?_)|(with_reducible refine bDz ?_ _)|(with_reducible refine Below.setCell ?_ ?_ _)|(simp;done)|(simp;omega)|omega)
   case rest =>
    obtain ⟨g,h,rfl,rfl,hgh,hg,hh,bg,bh,hbc⟩:=hcut;obtain ⟨g0,g1,_,_⟩:=bg.two;obtain ⟨h0,h1,_,_⟩:=bh.two
    by_cases c1:a<=c
    ·by_cases c2:b<=d
     ·go_wp2_with fail;refine wp_loop_rounds 3 ?_;rw [rounds_succ];go_wp2_with fail
      go_quiet (fail)
      go_wp2_with fail;rw [rounds_succ];go_wp2_with fail
      go_quiet (fail)
      go_wp2_with fail;rw [rounds_succ];go_wp2_with fail;go_ret;refine ⟨rB (by rw [H.out];simp [*]),?_⟩
      repeat' (first|(with_reducible exact Below.refl _ _)|(with_reducible assumption)|(with_reducible refine bSz ?_ (by with_reducible assumption))|(with_reducible refine bAz ?_ _)|(with_reducible refine Below.drew ?_)|(with_reducible refine bDz ?_ _)|(with_reducible refine Below.setCell ?_ ?_ _)|(simp;done)|(simp;omega)|omega)
     ·go_wp2_with fail;refine wp_loop_rounds 3 ?_;rw [rounds_succ];go_wp2_with fail
      go_quiet (fail)
      go_wp2_with fail;rw [rounds_succ];go_wp2_with fail
      go_quiet (fail)
      go_wp2_with fail;go_ret;refine ⟨rB (by rw [H.out];simp;omega),?_⟩
      repeat' (first|(with_reducible exact Below.refl _ _)|(with_reducible assumption)|(with_reducible refine bSz ?_ (by with_reducible assumption))|(with_reducible refine bAz ?_ _)|(with_reducible refine Below.drew ?_)|(with_reducible refine bDz ?_ _)|(with_reducible refine Below.setCell ?_ ?_ _)|(simp;done)|(simp;omega)|omega)
    ·go_wp2_with fail;refine wp_loop_rounds 3 ?_;rw [rounds_succ];go_wp2_with fail
     go_quiet (fail)
     go_wp2_with fail;go_ret;refine ⟨rB (by rw [H.out];simp;omega),?_⟩
     repeat' (first|(with_reducible exact Below.refl _ _)|(with_reducible assumption)|(with_reducible refine bSz ?_ (by with_reducible assumption))|(with_reducible refine bAz ?_ _)|(with_reducible refine Below.drew ?_)|(with_reducible refine bDz ?_ _)|(with_reducible refine Below.setCell ?_ ?_ _)|(simp;done)|(simp;omega)|omega)
attribute [local go_sem ↓] Go.wp_at_zero Go.wp_at_succ
def jnA (a b c d:Int):Int:=if okB a b&&okB c d then max a c else 0
def jnB (a b c d:Int):Int:=if okB a b&&okB c d then max b d else 0
theorem specJoin_any (a b c d:Int) (w:World) :
  Calls Tryz.prog 130 #[tv a b,tv c d] w fun e w'=>e= .returned (tv (jnA a b c d) (jnB a b c d))/\Below w.heap.size w w':=by
 have HA:Hid (jnA a b c d=if okB a b&&okB c d then max a c else 0):=rfl;have HB:Hid (jnB a b c d=if okB a b&&okB c d then max b d else 0):=rfl;cases hs:okB a b
 ·go_enter Tryz.func130,Tryz.ntmps130;go_wp2_with fail;refine (specOk_any _ _ _).mono ?_;rintro e w1 ⟨rfl,hb1⟩;obtain ⟨bs,bt,br⟩:=boxed3 hb1;obtain ⟨r0,r1,f0,f1⟩:=br.two;go_wp2_with fail;refine bodyPost_ret (by simp [results,Tryz.results130,go_sem,set1a br,set2b br];try rfl) rfl ?_;refine ⟨ret_tv (by rw [HA.out];simp [hs]) (by rw [HB.out];simp [hs]),?_⟩
  repeat' (first|(with_reducible exact Below.refl _ _)|(with_reducible assumption)|(with_reducible refine bSz ?_ (by with_reducible assumption))|(with_reducible refine bAz ?_ _)|(with_reducible refine Below.drew ?_)|(with_reducible refine bDz ?_ _)|(with_reducible refine Below.setCell ?_ ?_ _)|(simp;done)|(simp;omega)|omega)
 ·cases ht:okB c d
  ·go_enter Tryz.func130,Tryz.ntmps130;go_wp2_with fail;refine (specOk_any _ _ _).mono ?_;rintro e w1 ⟨rfl,hb1⟩;obtain ⟨bs,bt,br⟩:=boxed3 hb1;obtain ⟨t0,t1,_,_⟩:=bt.two;go_wp2_with fail;refine (specOk_any _ _ _).mono ?_;rintro e w2 ⟨rfl,hb2⟩;obtain ⟨r0,r1,f0,f1⟩:=(br.keep hb2).two;go_wp2_with fail;refine bodyPost_ret (by simp [results,Tryz.results130,go_sem,set1a (br.keep hb2),set2b (br.keep hb2)];try rfl) rfl ?_;refine ⟨ret_tv (by rw [HA.out];simp [ht]) (by rw [HB.out];simp [ht]),?_⟩
   repeat' (first|(with_reducible exact Below.refl _ _)|(with_reducible assumption)|(with_reducible refine bSz ?_ (by with_reducible assumption))|(with_reducible refine bAz ?_ _)|(with_reducible refine Below.drew ?_)|(with_reducible refine bDz ?_ _)|(with_reducible refine Below.setCell ?_ ?_ _)|(simp;done)|(simp;omega)|omega)
  ·go_enter Tryz.func130,Tryz.ntmps130;go_wp2_with fail;refine (specOk_any _ _ _).mono ?_;rintro e w1 ⟨rfl,hb1⟩;obtain ⟨bs,bt,br⟩:=boxed3 hb1;obtain ⟨s0,s1,_,_⟩:=bs.two;obtain ⟨t0,t1,_,_⟩:=bt.two;go_wp2_with fail;refine (specOk_any _ _ _).mono ?_;rintro e w2 ⟨rfl,hb2⟩;obtain ⟨x0,x1,_,_⟩:=(bs.keep hb2).two;obtain ⟨y0,y1,_,_⟩:=(bt.keep hb2).two;have br2:=br.keep hb2;obtain ⟨r0,r1,f0,f1⟩:=br2.two;go_wp2_with fail
   all_goals
    refine bodyPost_ret (by simp [results,Tryz.results130,go_sem,set1a br2,set2b br2];try rfl) rfl ?_;refine ⟨ret_tv (by rw [HA.out];simp [hs,ht];omega) (by rw [HB.out];simp [hs,ht];omega),?_⟩
    repeat' (first|(with_reducible exact Below.refl _ _)|(with_reducible assumption)|(with_reducible refine bSz ?_ (by with_reducible assumption))|(with_reducible refine bAz ?_ _)|(with_reducible refine Below.drew ?_)|(with_reducible refine bDz ?_ _)|(with_reducible refine Below.setCell ?_ ?_ _)|(simp;done)|(simp;omega)|omega)
theorem implJoin_any (a b c d:Int) (w:World) :
  Calls Tryz.prog 98 #[tv a b,tv c d] w fun e w'=>e= .returned (tv (jnA a b c d) (jnB a b c d))/\Below w.heap.size w w':=by
 have HA:Hid (jnA a b c d=if okB a b&&okB c d then max a c else 0):=rfl;have HB:Hid (jnB a b c d=if okB a b&&okB c d then max b d else 0):=rfl;cases hs:okB a b
 ·go_enter Tryz.func98,Tryz.ntmps98;go_wp2_with fail;refine (implOk_any _ _ _).mono ?_;rintro e w1 ⟨rfl,hb1⟩;obtain ⟨bs,bt,br⟩:=boxed3 hb1;obtain ⟨r0,r1,f0,f1⟩:=br.two;go_wp2_with fail;refine bodyPost_ret (by simp [results,Tryz.results98,go_sem,set1a br,set2b br];try rfl) rfl ?_;refine ⟨ret_tv (by rw [HA.out];simp [hs]) (by rw [HB.out];simp [hs]),?_⟩
  repeat' (first|(with_reducible exact Below.refl _ _)|(with_reducible assumption)|(with_reducible refine bSz ?_ (by with_reducible assumption))|(with_reducible refine bAz ?_ _)|(with_reducible refine Below.drew ?_)|(with_reducible refine bDz ?_ _)|(with_reducible refine Below.setCell ?_ ?_ _)|(simp;done)|(simp;omega)|omega)
 ·cases ht:okB c d
  ·go_enter Tryz.func98,Tryz.ntmps98;go_wp2_with fail;refine (implOk_any _ _ _).mono ?_;rintro e w1 ⟨rfl,hb1⟩;obtain ⟨bs,bt,br⟩:=boxed3 hb1;obtain ⟨t0,t1,_,_⟩:=bt.two;go_wp2_with fail;refine (implOk_any _ _ _).mono ?_;rintro e w2 ⟨rfl,hb2⟩;obtain ⟨r0,r1,f0,f1⟩:=(br.keep hb2).two;go_wp2_with fail;refine bodyPost_ret (by simp [results,Tryz.results98,go_sem,set1a (br.keep hb2),set2b (br.keep hb2)];try rfl) rfl ?_;refine ⟨ret_tv (by rw [HA.out];simp [ht]) (by rw [HB.out];simp [ht]),?_⟩
   repeat' (first|(with_reducible exact Below.refl _ _)|(with_reducible assumption)|(with_reducible refine bSz ?_ (by with_reducible assumption))|(with_reducible refine bAz ?_ _)|(with_reducible refine Below.drew ?_)|(with_reducible refine bDz ?_ _)|(with_reducible refine Below.setCell ?_ ?_ _)|(simp;done)|(simp;omega)|omega)
  ·go_enter Tryz.func98,Tryz.ntmps98;go_wp2_with fail;refine (implOk_any _ _ _).mono ?_;rintro e w1 ⟨rfl,hb1⟩;obtain ⟨bs,bt,br⟩:=boxed3 hb1;obtain ⟨t0,t1,_,_⟩:=bt.two;go_wp2_with fail;refine (implOk_any _ _ _).mono ?_;rintro e w2 ⟨rfl,hb2⟩;have bs2:=bs.keep hb2;have bt2:=bt.keep hb2;have br2:=br.keep hb2;have ls:=br2.lt;obtain ⟨x0,x1,_,_⟩:=bs2.two;obtain ⟨y0,y1,_,_⟩:=bt2.two;go_wp2_with fail
   go_cut [5,6] (fun p q wc=>∃ g h:Nat,p= .pointer (some ⟨g,0,none⟩)/\q= .pointer (some ⟨h,0,none⟩)/\g≠h/\w2.heap.size<=g/\w2.heap.size<=h/\Bk wc g #[.int .i64 a, .int .i64 b] 154/\Bk wc h #[.int .i64 c, .int .i64 d] 154/\Below w2.heap.size w2 wc)
   case first =>
    go_region_held3 (fun w'=>w'.cell? ⟨w.heap.size,0,none⟩=some (.int .i64 a)/\w'.cell? ⟨w.heap.size,1,none⟩=some (.int .i64 b)/\w'.cell? ⟨w.heap.size+1,0,none⟩=some (.int .i64 c)/\w'.cell? ⟨w.heap.size+1,1,none⟩=some (.int .i64 d)) (refine ⟨?_,?_,?_,?_⟩<;>repeat' (first|with_reducible assumption|with_reducible refine cell_drew ?_|with_reducible refine cell_alloc ?_|with_reducible refine cell_apart ?_ (by simp;omega))) (first|(go_at_call 135;refine (numbersOf_any _ _ _).mono ?_;rintro e w' ⟨rfl,rfl⟩))
    all_goals
     go_wp2_with fail
     go_meet
     case rel =>
      refine ⟨_,_,rfl,rfl,?_,?_,?_,?_,?_,?_⟩
      ·first|omega|(simp;done)|(simp;omega)
      ·first|omega|(simp;done)|(simp;omega)
      ·first|omega|(simp;done)|(simp;omega)
      ·repeat' (first|(with_reducible refine Bk.drew ?_)|(with_reducible refine Bk.drewN ?_ _)|(with_reducible refine Bk.new _ _ ?_;(first|with_reducible rfl|omega|(simp;done)|(simp;omega)))|(with_reducible refine Bk.alloc ?_ _)|(with_reducible refine Bk2.set01 ?_ _ _)|(with_reducible refine Bk2.drew ?_)|(with_reducible refine Bk2.new _ _ _ ?_;(first|with_reducible rfl|omega|(simp;done)|(simp;omega)))|(with_reducible refine Bk2.alloc ?_ _)|(with_reducible refine Bk2.keep ?_ (by with_reducible assumption))|(with_reducible refine Bk.keep ?_ (by with_reducible assumption)))
      ·repeat' (first|(with_reducible refine Bk.drew ?_)|(with_reducible refine Bk.drewN ?_ _)|(with_reducible refine Bk.new _ _ ?_;(first|with_reducible rfl|omega|(simp;done)|(simp;omega)))|(with_reducible refine Bk.alloc ?_ _)|(with_reducible refine Bk2.set01 ?_ _ _)|(with_reducible refine Bk2.drew ?_)|(with_reducible refine Bk2.new _ _ _ ?_;(first|with_reducible rfl|omega|(simp;done)|(simp;omega)))|(with_reducible refine Bk2.alloc ?_ _)|(with_reducible refine Bk2.keep ?_ (by with_reducible assumption))|(with_reducible refine Bk.keep ?_ (by with_reducible assumption)))
      ·repeat' (first|(with_reducible exact Below.refl _ _)|(with_reducible assumption)|(with_reducible refine bSz ?_ (by with_reducible assumption))|(with_reducible refine bAz ?_ _)|(with_reducible refine Below.drew ?_)|(with_reducible refine bDz ?_ _)|(with_reducible refine Below.setCell ?_ ?_ _)|(simp;done)|(simp;omega)|omega)
   case rest =>
    obtain ⟨g,h,rfl,rfl,hgh,hg,hh,bg,bh,hbc⟩:=hcut;have br3:=br2.keep hbc;obtain ⟨g0,g1,fg0,fg1⟩:=bg.two;obtain ⟨h0,h1,_,_⟩:=bh.two;go_wp2_with fail;refine wp_loop_rounds 3 ?_;rw [rounds_succ];go_wp2_with fail
    go_region
    have hhg:h≠g:=Ne.symm hgh;generalize hM:(if a<c then c else a)=M;have HM:Hid (M=max a c):=by show M=max a c;rw [<- hM];split<;>omega
    clear hM;have bg2:=(bg.set 0 (.int .i64 M)).drew;have bh2:=(bh.apart (p:=⟨g,0,none⟩) hhg (.int .i64 M)).drew;have br4:=(br3.apart (p:=⟨g,0,none⟩) (by simp;omega) (.int .i64 M)).drew;have hbd:Below w2.heap.size w2 (wc.setCell ⟨g,0,none⟩ (.int .i64 M)).drew:=(hbc.setCell hg _).drew;generalize (wc.setCell ⟨g,0,none⟩ (.int .i64 M)).drew=wd at *;obtain ⟨k0,k1,fk0,fk1⟩:=bg2.two;obtain ⟨l0,l1,_,_⟩:=bh2.two;go_wp2_with fail;rw [rounds_succ];go_wp2_with fail
    go_region
    generalize hM2:(if b<d then d else b)=M2;have HM2:Hid (M2=max b d):=by show M2=max b d;rw [<- hM2];split<;>omega
    clear hM2;have bg3:=(bg2.set 1 (.int .i64 M2)).drew;have br5:=(br4.apart (p:=⟨g,1,none⟩) (by simp;omega) (.int .i64 M2)).drew;have hbe:Below w2.heap.size w2 (wd.setCell ⟨g,1,none⟩ (.int .i64 M2)).drew:=(hbd.setCell hg _).drew;generalize (wd.setCell ⟨g,1,none⟩ (.int .i64 M2)).drew=we at *;obtain ⟨m0,m1,_,_⟩:=bg3.two;go_wp2_with fail;rw [rounds_succ];go_wp2_with fail;refine (timeOf_any _ _ _).mono ?_;rintro e wf ⟨rfl,hbf⟩;have br6:=br5.keep hbf;obtain ⟨r0,r1,f0,f1⟩:=br6.two;go_wp2_with fail;refine bodyPost_ret (by simp [results,Tryz.results98,go_sem,set1a br6,set2b br6];try rfl) rfl ?_;refine ⟨ret_tv (by rw [HA.out,HM.out];simp [hs,ht]) (by rw [HB.out,HM2.out];simp [hs,ht]),?_⟩
    repeat' (first|(with_reducible exact Below.refl _ _)|(with_reducible assumption)|(with_reducible refine bSz ?_ (by with_reducible assumption))|(with_reducible refine bAz ?_ _)|(with_reducible refine Below.drew ?_)|(with_reducible refine bDz ?_ _)|(with_reducible refine Below.setCell ?_ ?_ _)|(simp;done)|(simp;omega)|omega)
attribute [local go_sem ↓] Go.wp_at_zero Go.wp_at_succ
end Go.Proofs.YtbdpcngcbnoioaaGreatDoor
set_option maxHeartbeats 2000000
namespace Go.Proofs.YtbdpcngcbnoioaaGreatDoor
open Go.RowKit
attribute [local go_sem ↓] Go.wp_at_zero Go.wp_at_succ
attribute [local go_sem ↓] Go.wp_at_zero Go.wp_at_succ
def anyB (l:LI) (x y:Int):Bool:=(List.range l.length).any fun i=>leB (tA l i) (tB l i) x y
theorem any_true {l:LI} {x y:Int} {k:Nat} (hk:k<l.length) (h:leB (tA l k) (tB l k) x y=true):anyB l x y=true:=by
 unfold anyB;rw [List.any_eq_true];exact ⟨k,by simpa using hk,h⟩
theorem any_false {l:LI} {x y:Int} (h:∀ j,j<l.length->leB (tA l j) (tB l j) x y=false):anyB l x y=false:=by
 unfold anyB;rw [List.any_eq_false];intro j hj;rw [h j (by simpa using hj)];simp
def Fk (w:World) (k:Nat):Prop:=w.heap[k]?=some (.cells #[.func (.func 90) #[] #[]] 112 (0,0))
theorem Fk.keep {w w1:World} {k:Nat} (h:Fk w k) (hb:Below w.heap.size w w1):Fk w1 k:=by
 unfold Fk;rw [hb.block k (lt_of_block h)];exact h
theorem Fk.cell {w:World} {k:Nat} (h:Fk w k):w.cell? ⟨k,0,none⟩=some (.func (.func 90) #[] #[]):=cell_of_one h
theorem closR_any (a b x y:Int) (bn bx:Nat) (w:World) (hf:Fk w bn) (hx:Bk w bx #[.int .i64 x, .int .i64 y] 32) :
  Calls Tryz.prog 158 #[tv a b, .pointer (some ⟨bn,0,none⟩), .pointer (some ⟨bx,0,none⟩)] w fun e w'=>e= .returned (.bool (leB a b x y))/\Below w.heap.size w w':=by
 have c0:=hf.cell;obtain ⟨x0,x1,_,_⟩:=hx.two;have l0:=lt_of_block hf;have l1:=hx.lt;go_enter Tryz.func158,Tryz.ntmps158
 go_wp2_with (go_at_call 90;refine (implLess_any _ _ _ _ _).mono ?_;rintro e w' ⟨rfl,hb⟩)
 go_ret;refine ⟨rfl,?_⟩
 repeat' (first|(with_reducible exact Below.refl _ _)|(with_reducible assumption)|(with_reducible refine bSz ?_ (by with_reducible assumption))|(with_reducible refine bAz ?_ _)|(with_reducible refine Below.drew ?_)|(with_reducible refine bDz ?_ _)|(with_reducible refine Below.setCell ?_ ?_ _)|(simp;done)|(simp;omega)|omega)
theorem closR_eq {a b x y:Int} {r:Bool} (h:leB a b x y=r) {bn bx:Nat} {w:World} (hf:Fk w bn) (hx:Bk w bx #[.int .i64 x, .int .i64 y] 32) :
  Calls Tryz.prog 158 #[tv a b, .pointer (some ⟨bn,0,none⟩), .pointer (some ⟨bx,0,none⟩)] w fun e w'=>e= .returned (.bool r)/\Below w.heap.size w w':=by
 rw [<- h];exact closR_any a b x y bn bx w hf hx
def IsFirst (p:Nat->Bool) (n:Nat) (r:Int):Prop:=(r = -1/\∀ i,i<n->p i=false)\/∃ k:Nat,r=k/\k<n/\p k=true/\∀ i,i<k->p i=false
theorem indexR_any (v:Value) (l:LI) (x y:Int) (bn bx:Nat) (w:World) (h:Ts w v l) (hf:Fk w bn) (hx:Bk w bx #[.int .i64 x, .int .i64 y] 32) :
  Calls Tryz.prog 204 #[v, .func (.func 158) #[] #[.pointer (some ⟨bn,0,none⟩), .pointer (some ⟨bx,0,none⟩)]] w fun e w'=>∃ r:Int,e= .returned (.int .i64 r)/\IsFirst (fun i=>leB (tA l i) (tB l i) x y) l.length r/\Below w.heap.size w w':=by
 obtain ⟨a,cap,rfl,hc,hm,hn,hcells⟩:=h;unfold maxLen at hm;have HC:=(show Hid _ from hcells);clear hcells;go_enter Tryz.func204,Tryz.ntmps204;go_wp2_with fail
 go_loopw [8] (fun i wr=>∃ k:Nat,k<=l.length/\i= .int .i64 k/\(∀ j,j<k->leB (tA l j) (tB l j) x y=false)/\Below w.heap.size w wr) (fun i _=>l.length-(intOf i).toNat)
 case atStart=>exact ⟨0,by omega,rfl,fun j hj=>by omega,Below.refl _ _⟩
 case round =>
  obtain ⟨k,hk,rfl,hall,hb⟩:=hrel;have HA:=(show Hid _ from hall);clear hall
  by_cases hlt:k<l.length
  ·obtain ⟨g,off,rfl,hg,c0,c1⟩:=HC.out k hlt;have d0:=cB hb c0;have d1:=cB hb c1;clear c0 c1;generalize hX:tA l k=X at *;generalize hY:tB l k=Y at *;have EX:Hid (tA l k=X):=hX;have EY:Hid (tB l k=Y):=hY;clear hX hY;have hf2:=hf.keep hb;have hx2:=hx.keep hb;cases hp:leB X Y x y
   ·have HK:Hid (leB (tA l k) (tB l k) x y=false):=by show _=false;rw [EX.out,EY.out];exact hp
    go_wp2_with fail;refine (closR_eq hp hf2 hx2).mono ?_;rintro e w1 ⟨rfl,hb1⟩;have hbw:=bSz hb hb1;go_wp2_with fail;go_roundw
    case rel =>
     refine ⟨k+1,by omega,by go_num,fun j hj=>?_,hbw⟩
     by_cases e:j=k
     ·subst e;exact HK.out
     ·exact HA.out j (by omega)
    case measure=>simp [intOf];omega
   ·have HK:Hid (leB (tA l k) (tB l k) x y=true):=by show _=true;rw [EX.out,EY.out];exact hp
    go_wp2_with fail;refine (closR_eq hp hf2 hx2).mono ?_;rintro e w1 ⟨rfl,hb1⟩;have hbw:=bSz hb hb1;go_wp2_with fail;go_ret;exact ⟨_,rfl, .inr ⟨k,rfl,hlt,HK.out,HA.out⟩,hbw⟩
  ·go_wp2_with fail;go_ret;exact ⟨_,rfl, .inl ⟨rfl,fun i hi=>HA.out i (by omega)⟩,hb⟩
theorem containsR_any (v:Value) (l:LI) (x y:Int) (bn bx:Nat) (w:World) (h:Ts w v l) (hf:Fk w bn) (hx:Bk w bx #[.int .i64 x, .int .i64 y] 32) :
  Calls Tryz.prog 157 #[v, .func (.func 158) #[] #[.pointer (some ⟨bn,0,none⟩), .pointer (some ⟨bx,0,none⟩)]] w fun e w'=>e= .returned (.bool (anyB l x y))/\Below w.heap.size w w':=by
 go_enter Tryz.func157,Tryz.ntmps157;go_wp2_with fail;refine (indexR_any v l x y bn bx w h hf hx).mono ?_;rintro e w1 ⟨r,rfl,hr,hb⟩
 rcases hr with ⟨rfl,hno⟩|⟨k,rfl,hk,hyes,_⟩
 ·have hfin:Hid (anyB l x y=false):=any_false hno;clear hno;go_wp2_with fail;go_ret;exact ⟨rB hfin.out.symm,hb⟩
 ·have hfin:Hid (anyB l x y=true):=any_true hk hyes;have ik:(0:Int)<=(k:Int):=by omega
  clear hyes;go_wp2_with fail;go_ret;refine ⟨?_,hb⟩;rw [hfin.out];exact rB (by simp)
theorem reaches_any (v:Value) (l:LI) (x y:Int) (w:World) (h:Ts w v l) :
  Calls Tryz.prog 89 #[v,tv x y, .func (.func 90) #[] #[]] w fun e w'=>e= .returned (.bool (anyB l x y))/\Below w.heap.size w w':=by
 have hb0:Below w.heap.size w ((w.alloc (.cells #[.int .i64 x, .int .i64 y] 32)).alloc (.cells #[.func (.func 90) #[] #[]] 112)):=bAz (bAz (Below.refl _ _) _) _;have hx:Bk ((w.alloc (.cells #[.int .i64 x, .int .i64 y] 32)).alloc (.cells #[.func (.func 90) #[] #[]] 112)) w.heap.size #[.int .i64 x, .int .i64 y] 32:=(Bk.new _ _ rfl).alloc _;have hf:Fk ((w.alloc (.cells #[.int .i64 x, .int .i64 y] 32)).alloc (.cells #[.func (.func 90) #[] #[]] 112)) (w.heap.size+1):=by
  have:=heap_alloc_new (w.alloc (.cells #[.int .i64 x, .int .i64 y] 32)) (.cells #[.func (.func 90) #[] #[]] 112)
  simpa [Fk] using this
 go_enter Tryz.func89,Tryz.ntmps89;go_wp2_with fail;refine (containsR_any v l x y _ _ _ (h.keep hb0) hf hx).mono ?_;rintro e w1 ⟨rfl,hb1⟩;go_wp2_with fail;go_ret;exact ⟨rfl,bSz hb0 hb1⟩
theorem implCovers_any (v:Value) (l:LI) (x y:Int) (w:World) (h:Ts w v l) :
  Calls Tryz.prog 29 #[v,tv x y] w fun e w'=>e= .returned (.bool (fokB l&&anyB l x y))/\Below w.heap.size w w':=by
 have hb0:Below w.heap.size w (w.alloc (.cells #[.int .i64 x, .int .i64 y] 32)):=bAz (Below.refl _ _) _;have bx:Bk (w.alloc (.cells #[.int .i64 x, .int .i64 y] 32)) w.heap.size #[.int .i64 x, .int .i64 y] 32:=Bk.new _ _ rfl;go_enter Tryz.func29,Tryz.ntmps29;go_wp2_with fail;refine (implFrontOk_any v l _ (h.keep hb0)).mono ?_;rintro e w1 ⟨rfl,hb1⟩;have hbw1:=bSz hb0 hb1;obtain ⟨c0,c1,_,_⟩:=(bx.keep hb1).two;cases hf:fokB l
 ·go_wp2_with fail;go_ret;exact ⟨rB (by simp [hf]),hbw1⟩
 ·go_wp2_with fail;refine (reaches_any v l x y _ (h.keep hbw1)).mono ?_;rintro e w2 ⟨rfl,hb2⟩;go_wp2_with fail;go_ret;exact ⟨rB (by simp [hf]),bSz hbw1 hb2⟩
theorem specLess_eq {a b c d:Int} {r:Bool} (h:leB a b c d=r) (w:World):Calls Tryz.prog 129 #[tv a b,tv c d] w fun e w'=>e= .returned (.bool r)/\Below w.heap.size w w':=by
 rw [<- h];exact specLess_any a b c d w
theorem specCovers_any (v:Value) (l:LI) (x y:Int) (w:World) (h:Ts w v l) :
  Calls Tryz.prog 62 #[v,tv x y] w fun e w'=>e= .returned (.bool (fokB l&&anyB l x y))/\Below w.heap.size w w':=by
 have hb0:Below w.heap.size w (w.alloc (.cells #[.int .i64 x, .int .i64 y] 32)):=bAz (Below.refl _ _) _;have bx:Bk (w.alloc (.cells #[.int .i64 x, .int .i64 y] 32)) w.heap.size #[.int .i64 x, .int .i64 y] 32:=Bk.new _ _ rfl;go_enter Tryz.func62,Tryz.ntmps62;go_wp2_with fail;refine (specFrontOk_any v l _ (h.keep hb0)).mono ?_;rintro e w1 ⟨rfl,hb1⟩;have hbw1:=bSz hb0 hb1;have bx1:=bx.keep hb1;cases hf:fokB l
 ·go_wp2_with fail;go_ret;exact ⟨rB (by simp [hf]),hbw1⟩
 obtain ⟨a,cap,rfl,hc,hm,hn,hcells⟩:=h.keep hbw1;unfold maxLen at hm;have HC:=(show Hid _ from hcells);have HF:Hid (fokB l=true):=hf;clear hcells bx hb0 hb1 hf;go_wp2_with fail
 go_loopw [5] (fun i wr=>∃ k:Nat,k<=l.length/\i= .int .i64 k/\(∀ j,j<k->leB (tA l j) (tB l j) x y=false)/\Below w1.heap.size w1 wr) (fun i _=>l.length-(intOf i).toNat)
 case atStart=>exact ⟨0,by omega,rfl,fun j hj=>by omega,Below.refl _ _⟩
 case round =>
  obtain ⟨k,hk,rfl,hall,hb⟩:=hrel;have HA:=(show Hid _ from hall);clear hall;have hbw:=bSz hbw1 hb
  by_cases hlt:k<l.length
  ·obtain ⟨g,off,rfl,hg,c0,c1⟩:=HC.out k hlt;generalize hX:tA l k=X at *;generalize hY:tB l k=Y at *;have EX:Hid (tA l k=X):=hX;have EY:Hid (tB l k=Y):=hY;clear hX hY;have d0:∀ p:Bel wr,p.ww.cell? ⟨g,off+k*2,none⟩=some (.int .i64 X):=fun p=>cB p.below (cB hb c0);have d1:∀ p:Bel wr,p.ww.cell? ⟨g,off+k*2+1,none⟩=some (.int .i64 Y):=fun p=>cB p.below (cB hb c1);have e0:=(bx1.keep hb).bel0;have e1:=(bx1.keep hb).bel1;have hne:=bel_some wr;have ik:((k:Int)<(l.length:Int)):=by omega
   clear c0 c1;cases hp:leB X Y x y
   ·have HK:Hid (leB (tA l k) (tB l k) x y=false):=by show _=false;rw [EX.out,EY.out];exact hp
    go_wp2_with fail
    (refine wBz (by kernel_rfl) (by kernel_rfl) ?_;(repeat (go_big_quiet_step ((first|(go_at_call 129;exact clz (specLess_eq (by with_reducible assumption) _))))));refine wpQuiet_nil ?_)
    intro w2 hw2
    replace hw2:=bOz hw2
    have hb2:=bSz hb hw2;go_wp2_with fail;go_roundw
    case rel =>
     refine ⟨k+1,by omega,by go_num,fun j hj=>?_,hb2⟩
     by_cases e:j=k
     ·subst e;exact HK.out
     ·exact HA.out j (by omega)
    case measure=>simp [intOf];omega
   ·have HK:Hid (anyB l x y=true):=any_true hlt (by rw [EX.out,EY.out];exact hp);go_wp2_with fail
    (refine wBz (by kernel_rfl) (by kernel_rfl) ?_;(repeat (go_big_quiet_step ((first|(go_at_call 129;exact clz (specLess_eq (by with_reducible assumption) _))))));refine wpQuiet_nil ?_)
    intro w2 hw2
    replace hw2:=bOz hw2
    go_wp2_with fail;go_ret;exact ⟨rB (by rw [HF.out,HK.out];rfl),bSz hbw hw2⟩
  ·have HK:Hid (anyB l x y=false):=any_false fun j hj=>HA.out j (by omega);go_wp2_with fail;go_ret;exact ⟨rB (by rw [HK.out];simp),hbw⟩
def cellsL (l:LI):List Value:=l.flatMap fun p=>[.int .i64 p.1, .int .i64 p.2]
theorem cellsL_length (l:LI):(cellsL l).length=l.length*2:=by
 induction l with
 | nil=>rfl
 | cons p l ih=>unfold cellsL at *;simp [List.flatMap_cons,ih];omega
theorem cellsL_snoc (l:LI) (a b:Int):cellsL (l++[(a,b)])=cellsL l++[.int .i64 a, .int .i64 b]:=by
 unfold cellsL;rw [List.flatMap_append];simp
theorem cellsL_get (l:LI) (i:Nat) (h:i<l.length):(cellsL l)[i*2]?=some (.int .i64 (tA l i))/\(cellsL l)[i*2+1]?=some (.int .i64 (tB l i)):=by
 induction l generalizing i with
 | nil=>simp at h
 | cons p l ih =>
  cases i with
  | zero=>simp [cellsL,tA,tB,List.flatMap_cons]
  | succ i =>
   have:=ih i (by simpa using h);have e1:(i+1)*2=i*2+2:=by omega
   have e2:(i+1)*2+1=i*2+1+2:=by omega
   rw [e1]
   simpa [cellsL,List.flatMap_cons,tA,tB] using this
abbrev Own (w:World) (B:Nat) (v:Value) (l:LI):Prop:=w.ownsRow B 32 2 v l.length (cellsL l)
theorem Own.ts {w:World} {B:Nat} {v:Value} {l:LI} (h:Own w B v l) (hl:l.length<=2097152):Ts w v l:=by
 have hh:=h;obtain ⟨_,h2⟩:=h
 rcases h2 with ⟨rfl,h0⟩|⟨g,cap,cur,rfl,hg,hb,hc,hm,_,_⟩
 ·have:l=[]:=List.eq_nil_of_length_eq_zero h0;subst this;exact ⟨none,0,rfl,Nat.le_refl _,by unfold maxLen;omega,by simp,fun i hi=>by simp at hi⟩
 ·refine ⟨_,cap,rfl,hc,hm,hl,fun i hi=>⟨g,0,rfl,lt_of_block hb,?_,?_⟩⟩
  ·rw [Nat.zero_add,hh.cellAt _ (by omega)];exact (cellsL_get l i hi).1
  ·rw [Nat.zero_add,hh.cellAt _ (by omega)];exact (cellsL_get l i hi).2
theorem own_move {w w1:World} {B:Nat} {e:TypeId} {s:Nat} {v:Value} {n:Nat} {xs:List Value} (h:w.ownsRow B e s v n xs) (hb:∀ k,B<=k->k<w.heap.size->w1.heap[k]?=w.heap[k]?):w1.ownsRow B e s v n xs:=by
 obtain ⟨h1,h2⟩:=h;refine ⟨h1,?_⟩
 rcases h2 with h2|⟨g,cap,cur,rfl,hg,hh,r⟩
 ·exact .inl h2
 ·exact .inr ⟨g,cap,cur,rfl,hg,by rw [hb g hg (lt_of_block hh)];exact hh,r⟩
theorem oX {g:Nat} {w w1:World} {B:Nat} {e:TypeId} {s:Nat} {v:Value} {n:Nat} {xs:List Value} (h:w.ownsRow B e s v n xs) (hx:Bx g w w1) (hg:g<B):w1.ownsRow B e s v n xs :=
 own_move h fun k hk hs=>hx.block k hs (by omega)
theorem oK {w w1:World} {B:Nat} {e:TypeId} {s:Nat} {v:Value} {n:Nat} {xs:List Value} (h:w.ownsRow B e s v n xs) (hx:Below w.heap.size w w1):w1.ownsRow B e s v n xs :=
 own_move h fun k _ hs=>hx.block k hs
theorem oLz {w:World} {B B':Nat} {e:TypeId} {s:Nat} {v:Value} {n:Nat} {xs:List Value} (h:w.ownsRow B e s v n xs) (hB:B'<=B):w.ownsRow B' e s v n xs:=by
 obtain ⟨h1,h2⟩:=h;refine ⟨h1,?_⟩
 rcases h2 with h2|⟨g,cap,cur,rfl,hg,r⟩
 ·exact .inl h2
 ·exact .inr ⟨g,cap,cur,rfl,by omega,r⟩
def aokB (l:LI):Bool:=(List.range l.length).all fun i=>okB (tA l i) (tB l i)
theorem aok_true {l:LI} (h:∀ j,j<l.length->okB (tA l j) (tB l j)=true):aokB l=true:=by
 unfold aokB;rw [List.all_eq_true];intro j hj;exact h j (by simpa using hj)
def eqAt (l:LI) (a b:Int) (i:Nat):Bool:=decide (tA l i=a/\tB l i=b)
def lowAt (l:LI) (a b:Int) (i:Nat):Bool:=!eqAt l a b i&&leB (tA l i) (tB l i) a b
def memTo (l:LI) (a b:Int) (m:Nat):Bool:=(List.range m).any (eqAt l a b)
def lowTo (l:LI) (a b:Int) (m:Nat):Bool:=(List.range m).any (lowAt l a b)
def leastB (l:LI) (a b:Int):Bool:=memTo l a b l.length&&!lowTo l a b l.length
def gA (i:Nat):Int:=((i / 8:Nat):Int)
def gB (i:Nat):Int:=7-((i%8:Nat):Int)
def frTo (l:LI) (n:Nat):LI:=((List.range n).filter fun i=>leastB l (gA i) (gB i)).map fun i=>(gA i,gB i)
def frontL (l:LI):LI:=if aokB l then frTo l 64 else []
end Go.Proofs.YtbdpcngcbnoioaaGreatDoor
