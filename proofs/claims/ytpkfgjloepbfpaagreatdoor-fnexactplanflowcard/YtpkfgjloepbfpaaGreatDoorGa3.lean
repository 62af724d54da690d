import Derived.Test.YtpkfgjloepbfpaaGreatDoorGa1
import Derived.BigRegion
set_option maxHeartbeats 8000000
namespace Go.Proofs.YtpkfgjloepbfpaaGreatDoor
open Go.RowKit
attribute [local go_sem ↓] Go.wp_at_zero Go.wp_at_succ
theorem implLess_any (a b c d:Int) (w:World) :
  Calls Tryz.prog 136 #[tv a b,tv c d] w fun e w'=>e= .returned (.bool (leB a b c d))/\Below w.heap.size w w':=by
 have H:Hid (leB a b c d=(okB a b&&okB c d&&decide (a<=c)&&decide (b<=d))):=rfl;cases hs:okB a b
 ·go_enter Tryz.func136,Tryz.ntmps136;go_wp2_with fail;refine (implOk_any _ _ _).mono ?_;rintro e w1 ⟨rfl,hb1⟩;go_wp2_with fail;go_ret;refine ⟨rB (by rw [H.out];simp [hs]),?_⟩
  repeat' (first|(with_reducible exact Below.refl _ _)|(with_reducible assumption)|(with_reducible refine bSz ?_ (by with_reducible assumption))|(with_reducible refine bAz ?_ _)|(with_reducible refine Below.drew ?_)|(with_reducible refine bD ?_ _)|(with_reducible refine Below.setCell ?_ ?_ _)|(simp;done)|(simp;omega)|omega)
 ·cases ht:okB c d
  ·go_enter Tryz.func136,Tryz.ntmps136;go_wp2_with fail;refine (implOk_any _ _ _).mono ?_;rintro e w1 ⟨rfl,hb1⟩;obtain ⟨bs,bt⟩:=boxed2 hb1;obtain ⟨t0,t1,_,_⟩:=bt.two;go_wp2_with fail;refine (implOk_any _ _ _).mono ?_;rintro e w2 ⟨rfl,hb2⟩;go_wp2_with fail;go_ret;refine ⟨rB (by rw [H.out];simp [ht]),?_⟩
   repeat' (first|(with_reducible exact Below.refl _ _)|(with_reducible assumption)|(with_reducible refine bSz ?_ (by with_reducible assumption))|(with_reducible refine bAz ?_ _)|(with_reducible refine Below.drew ?_)|(with_reducible refine bD ?_ _)|(with_reducible refine Below.setCell ?_ ?_ _)|(simp;done)|(simp;omega)|omega)
  ·go_enter Tryz.func136,Tryz.ntmps136;go_wp2_with fail;refine (implOk_any _ _ _).mono ?_;rintro e w1 ⟨rfl,hb1⟩;obtain ⟨bs,bt⟩:=boxed2 hb1;obtain ⟨s0,s1,_,_⟩:=bs.two;obtain ⟨t0,t1,_,_⟩:=bt.two;go_wp2_with fail;refine (implOk_any _ _ _).mono ?_;rintro e w2 ⟨rfl,hb2⟩;have bs2:=bs.keep hb2;have bt2:=bt.keep hb2;have ls:=bs2.lt;have lt:=bt2.lt;obtain ⟨x0,x1,_,_⟩:=bs2.two;obtain ⟨y0,y1,_,_⟩:=bt2.two;go_wp2_with fail
   go_cut [5,6] (fun p q wc=>∃ g h:Nat,p= .pointer (some ⟨g,0,none⟩)/\q= .pointer (some ⟨h,0,none⟩)/\g≠h/\w2.heap.size<=g/\w2.heap.size<=h/\Bk wc g #[.int .i64 a, .int .i64 b] 160/\Bk wc h #[.int .i64 c, .int .i64 d] 160/\Below w2.heap.size w2 wc)
   case first =>
    go_region_held3 (fun w'=>w'.cell? ⟨w.heap.size,0,none⟩=some (.int .i64 a)/\w'.cell? ⟨w.heap.size,1,none⟩=some (.int .i64 b)/\w'.cell? ⟨w.heap.size+1,0,none⟩=some (.int .i64 c)/\w'.cell? ⟨w.heap.size+1,1,none⟩=some (.int .i64 d)) (refine ⟨?_,?_,?_,?_⟩<;>repeat' (first|with_reducible assumption|with_reducible refine cell_drew ?_|with_reducible refine cell_alloc ?_|with_reducible refine cell_apart ?_ (by simp;omega))) (first|(go_at_call 103;refine (numbersOf_any _ _ _).mono ?_;rintro e w' ⟨rfl,rfl⟩))
    all_goals
     go_wp2_with fail
     go_meet
     case rel =>
      refine ⟨_,_,rfl,rfl,?_,?_,?_,?_,?_,?_⟩
      ·first|omega|(simp;done)|(simp;omega)
      ·first|omega|(simp;done)|(simp;omega)
      ·first|omega|(simp;done)|(simp;omega)
      ·repeat' (first|(with_reducible refine Bk.drew ?_)|(with_reducible refine Bk.drewN ?_ _)|(with_reducible refine Bk.new _ _ ?_;(first|with_reducible rfl|omega|(simp;done)|(simp;omega)))|(with_reducible refine Bk.alloc ?_ _)|(with_reducible refine Bk2.set01 ?_ _ _)|(with_reducible refine Bk2.drew ?_)|(with_reducible refine Bk2.new _ _ _ ?_;(first|with_reducible rfl|omega|(simp;done)|(simp;omega)))|(with_reducible refine Bk2.alloc ?_ _)|(with_reducible refine Bk2.keep ?_ (by with_reducible assumption))|(with_reducible refine Bk.keep ?_ (by with_reducible assumption)))
      ·repeat' (first|(with_reducible refine Bk.drew ?_)|(with_reducible refine Bk.drewN ?_ _)|(with_reducible refine Bk.new _ _ ?_;(first|with_reducible rfl|omega|(simp;done)|(simp;omega)))|(with_reducible refine Bk.alloc ?_ _)|(with_reducible refine Bk2.set01 ?_ _ _)|(with_reducible refine Bk2.drew ?_)|(with_reducible refine Bk2.new _ _ _ ?_;(first|with_reducible rfl|omega|(simp;done)|(simp;omega)))|(with_reducible refine Bk2.alloc ?_ _)|(with_reducible refine Bk2.keep ?_ (by with_reducible assumption))|(with_reducible refine Bk.keep ?_ (by with_reducible assumption)))
      ·repeat' (first|(with_reducible exact Below.refl _ _)|(with_reducible assumption)|(with_reducible refine bSz ?_ (by with_reducible assumption))|(with_reducible refine bAz ?_ _)|(with_reducible refine Below.drew ?_)|(with_reducible refine bD ?_ _)|(with_reducible refine Below.setCell ?_ ?_ _)|(simp;done)|(simp;omega)|omega)
   case rest =>
    obtain ⟨g,h,rfl,rfl,hgh,hg,hh,bg,bh,hbc⟩:=hcut;obtain ⟨g0,g1,_,_⟩:=bg.two;obtain ⟨h0,h1,_,_⟩:=bh.two
    by_cases c1:a<=c
    ·by_cases c2:b<=d
     ·go_wp2_with fail;refine wp_loop_rounds 3 ?_;rw [rounds_succ];go_wp2_with fail
      go_quiet (fail)
      go_wp2_with fail;rw [rounds_succ];go_wp2_with fail
      go_quiet (fail)
      go_wp2_with fail;rw [rounds_succ];go_wp2_with fail;go_ret;refine ⟨rB (by rw [H.out];simp [*]),?_⟩
      repeat' (first|(with_reducible exact Below.refl _ _)|(with_reducible assumption)|(with_reducible refine bSz ?_ (by with_reducible assumption))|(with_reducible refine bAz ?_ _)|(with_reducible refine Below.drew ?_)|(with_reducible refine bD ?_ _)|(with_reducible refine Below.setCell ?_ ?_ _)|(simp;done)|(simp;omega)|omega)
     ·go_wp2_with fail;refine wp_loop_rounds 3 ?_;rw [rounds_succ];go_wp2_with fail
      go_quiet (fail)
      go_wp2_with fail;rw [rounds_succ];go_wp2_with fail
      go_quiet (fail)
      go_wp2_with fail;go_ret;refine ⟨rB (by rw [H.out];simp;omega),?_⟩
      repeat' (first|(with_reducible exact Below.refl _ _)|(with_reducible assumption)|(with_reducible refine bSz ?_ (by with_reducible assumption))|(with_reducible refine bAz ?_ _)|(with_reducible refine Below.drew ?_)|(with_reducible refine bD ?_ _)|(with_reducible refine Below.setCell ?_ ?_ _)|(simp;done)|(simp;omega)|omega)
    ·go_wp2_with fail;refine wp_loop_rounds 3 ?_;rw [rounds_succ];go_wp2_with fail
     go_quiet (fail)
     go_wp2_with fail;go_ret;refine ⟨rB (by rw [H.out];simp;omega),?_⟩
     repeat' (first|(with_reducible exact Below.refl _ _)|(with_reducible assumption)|(with_reducible refine bSz ?_ (by with_reducible assumption))|(with_reducible refine bAz ?_ _)|(with_reducible refine Below.drew ?_)|(with_reducible refine bD ?_ _)|(with_reducible refine Below.setCell ?_ ?_ _)|(simp;done)|(simp;omega)|omega)
attribute [local go_sem ↓] Go.wp_at_zero Go.wp_at_succ
def jnA (a b c d:Int):Int:=if okB a b&&okB c d then max a c else 0
def jnB (a b c d:Int):Int:=if okB a b&&okB c d then max b d else 0
theorem specJoin_any (a b c d:Int) (w:World) :
  Calls Tryz.prog 61 #[tv a b,tv c d] w fun e w'=>e= .returned (tv (jnA a b c d) (jnB a b c d))/\Below w.heap.size w w':=by
 have HA:Hid (jnA a b c d=if okB a b&&okB c d then max a c else 0):=rfl;have HB:Hid (jnB a b c d=if okB a b&&okB c d then max b d else 0):=rfl;cases hs:okB a b
 ·go_enter Tryz.func61,Tryz.ntmps61;go_wp2_with fail;refine (specOk_any _ _ _).mono ?_;rintro e w1 ⟨rfl,hb1⟩;obtain ⟨bs,bt,br⟩:=boxed3 hb1;obtain ⟨r0,r1,f0,f1⟩:=br.two;go_wp2_with fail;refine bodyPost_ret (by simp [results,Tryz.results61,go_sem,set1a br,set2b br];try rfl) rfl ?_;refine ⟨ret_tv (by rw [HA.out];simp [hs]) (by rw [HB.out];simp [hs]),?_⟩
  repeat' (first|(with_reducible exact Below.refl _ _)|(with_reducible assumption)|(with_reducible refine bSz ?_ (by with_reducible assumption))|(with_reducible refine bAz ?_ _)|(with_reducible refine Below.drew ?_)|(with_reducible refine bD ?_ _)|(with_reducible refine Below.setCell ?_ ?_ _)|(simp;done)|(simp;omega)|omega)
 ·cases ht:okB c d
  ·go_enter Tryz.func61,Tryz.ntmps61;go_wp2_with fail;refine (specOk_any _ _ _).mono ?_;rintro e w1 ⟨rfl,hb1⟩;obtain ⟨bs,bt,br⟩:=boxed3 hb1;obtain ⟨t0,t1,_,_⟩:=bt.two;go_wp2_with fail;refine (specOk_any _ _ _).mono ?_;rintro e w2 ⟨rfl,hb2⟩;obtain ⟨r0,r1,f0,f1⟩:=(br.keep hb2).two;go_wp2_with fail;refine bodyPost_ret (by simp [results,Tryz.results61,go_sem,set1a (br.keep hb2),set2b (br.keep hb2)];try rfl) rfl ?_;refine ⟨ret_tv (by rw [HA.out];simp [ht]) (by rw [HB.out];simp [ht]),?_⟩
   repeat' (first|(with_reducible exact Below.refl _ _)|(with_reducible assumption)|(with_reducible refine bSz ?_ (by with_reducible assumption))|(with_reducible refine bAz ?_ _)|(with_reducible refine Below.drew ?_)|(with_reducible refine bD ?_ _)|(with_reducible refine Below.setCell ?_ ?_ _)|(simp;done)|(simp;omega)|omega)
  ·go_enter Tryz.func61,Tryz.ntmps61;go_wp2_with fail;refine (specOk_any _ _ _).mono ?_;rintro e w1 ⟨rfl,hb1⟩;obtain ⟨bs,bt,br⟩:=boxed3 hb1;obtain ⟨s0,s1,_,_⟩:=bs.two;obtain ⟨t0,t1,_,_⟩:=bt.two;go_wp2_with fail;refine (specOk_any _ _ _).mono ?_;rintro e w2 ⟨rfl,hb2⟩;obtain ⟨x0,x1,_,_⟩:=(bs.keep hb2).two;obtain ⟨y0,y1,_,_⟩:=(bt.keep hb2).two;have br2:=br.keep hb2;obtain ⟨r0,r1,f0,f1⟩:=br2.two;go_wp2_with fail
   all_goals
    refine bodyPost_ret (by simp [results,Tryz.results61,go_sem,set1a br2,set2b br2];try rfl) rfl ?_;refine ⟨ret_tv (by rw [HA.out];simp [hs,ht];omega) (by rw [HB.out];simp [hs,ht];omega),?_⟩
    repeat' (first|(with_reducible exact Below.refl _ _)|(with_reducible assumption)|(with_reducible refine bSz ?_ (by with_reducible assumption))|(with_reducible refine bAz ?_ _)|(with_reducible refine Below.drew ?_)|(with_reducible refine bD ?_ _)|(with_reducible refine Below.setCell ?_ ?_ _)|(simp;done)|(simp;omega)|omega)
theorem implJoin_any (a b c d:Int) (w:World) :
  Calls Tryz.prog 85 #[tv a b,tv c d] w fun e w'=>e= .returned (tv (jnA a b c d) (jnB a b c d))/\Below w.heap.size w w':=by
 have HA:Hid (jnA a b c d=if okB a b&&okB c d then max a c else 0):=rfl;have HB:Hid (jnB a b c d=if okB a b&&okB c d then max b d else 0):=rfl;cases hs:okB a b
 ·go_enter Tryz.func85,Tryz.ntmps85;go_wp2_with fail;refine (implOk_any _ _ _).mono ?_;rintro e w1 ⟨rfl,hb1⟩;obtain ⟨bs,bt,br⟩:=boxed3 hb1;obtain ⟨r0,r1,f0,f1⟩:=br.two;go_wp2_with fail;refine bodyPost_ret (by simp [results,Tryz.results85,go_sem,set1a br,set2b br];try rfl) rfl ?_;refine ⟨ret_tv (by rw [HA.out];simp [hs]) (by rw [HB.out];simp [hs]),?_⟩
  repeat' (first|(with_reducible exact Below.refl _ _)|(with_reducible assumption)|(with_reducible refine bSz ?_ (by with_reducible assumption))|(with_reducible refine bAz ?_ _)|(with_reducible refine Below.drew ?_)|(with_reducible refine bD ?_ _)|(with_reducible refine Below.setCell ?_ ?_ _)|(simp;done)|(simp;omega)|omega)
 ·cases ht:okB c d
  ·go_enter Tryz.func85,Tryz.ntmps85;go_wp2_with fail;refine (implOk_any _ _ _).mono ?_;rintro e w1 ⟨rfl,hb1⟩;obtain ⟨bs,bt,br⟩:=boxed3 hb1;obtain ⟨t0,t1,_,_⟩:=bt.two;go_wp2_with fail;refine (implOk_any _ _ _).mono ?_;rintro e w2 ⟨rfl,hb2⟩;obtain ⟨r0,r1,f0,f1⟩:=(br.keep hb2).two;go_wp2_with fail;refine bodyPost_ret (by simp [results,Tryz.results85,go_sem,set1a (br.keep hb2),set2b (br.keep hb2)];try rfl) rfl ?_;refine ⟨ret_tv (by rw [HA.out];simp [ht]) (by rw [HB.out];simp [ht]),?_⟩
   repeat' (first|(with_reducible exact Below.refl _ _)|(with_reducible assumption)|(with_reducible refine bSz ?_ (by with_reducible assumption))|(with_reducible refine bAz ?_ _)|(with_reducible refine Below.drew ?_)|(with_reducible refine bD ?_ _)|(with_reducible refine Below.setCell ?_ ?_ _)|(simp;done)|(simp;omega)|omega)
  ·go_enter Tryz.func85,Tryz.ntmps85;go_wp2_with fail;refine (implOk_any _ _ _).mono ?_;rintro e w1 ⟨rfl,hb1⟩;obtain ⟨bs,bt,br⟩:=boxed3 hb1;obtain ⟨t0,t1,_,_⟩:=bt.two;go_wp2_with fail;refine (implOk_any _ _ _).mono ?_;rintro e w2 ⟨rfl,hb2⟩;have bs2:=bs.keep hb2;have bt2:=bt.keep hb2;have br2:=br.keep hb2;have ls:=br2.lt;obtain ⟨x0,x1,_,_⟩:=bs2.two;obtain ⟨y0,y1,_,_⟩:=bt2.two;go_wp2_with fail
   go_cut [5,6] (fun p q wc=>∃ g h:Nat,p= .pointer (some ⟨g,0,none⟩)/\q= .pointer (some ⟨h,0,none⟩)/\g≠h/\w2.heap.size<=g/\w2.heap.size<=h/\Bk wc g #[.int .i64 a, .int .i64 b] 160/\Bk wc h #[.int .i64 c, .int .i64 d] 160/\Below w2.heap.size w2 wc)
   case first =>
    go_region_held3 (fun w'=>w'.cell? ⟨w.heap.size,0,none⟩=some (.int .i64 a)/\w'.cell? ⟨w.heap.size,1,none⟩=some (.int .i64 b)/\w'.cell? ⟨w.heap.size+1,0,none⟩=some (.int .i64 c)/\w'.cell? ⟨w.heap.size+1,1,none⟩=some (.int .i64 d)) (refine ⟨?_,?_,?_,?_⟩<;>repeat' (first|with_reducible assumption|with_reducible refine cell_drew ?_|with_reducible refine cell_alloc ?_|with_reducible refine cell_apart ?_ (by simp;omega))) (first|(go_at_call 103;refine (numbersOf_any _ _ _).mono ?_;rintro e w' ⟨rfl,rfl⟩))
    all_goals
     go_wp2_with fail
     go_meet
     case rel =>
      refine ⟨_,_,rfl,rfl,?_,?_,?_,?_,?_,?_⟩
      ·first|omega|(simp;done)|(simp;omega)
      ·first|omega|(simp;done)|(simp;omega)
      ·first|omega|(simp;done)|(simp;omega)
      ·repeat' (first|(with_reducible refine Bk.drew ?_)|(with_reducible refine Bk.drewN ?_ _)|(with_reducible refine Bk.new _ _ ?_;(first|with_reducible rfl|omega|(simp;done)|(simp;omega)))|(with_reducible refine Bk.alloc ?_ _)|(with_reducible refine Bk2.set01 ?_ _ _)|(with_reducible refine Bk2.drew ?_)|(with_reducible refine Bk2.new _ _ _ ?_;(first|with_reducible rfl|omega|(simp;done)|(simp;omega)))|(with_reducible refine Bk2.alloc ?_ _)|(with_reducible refine Bk2.keep ?_ (by with_reducible assumption))|(with_reducible refine Bk.keep ?_ (by with_reducible assumption)))
      ·repeat' (first|(with_reducible refine Bk.drew ?_)|(with_reducible refine Bk.drewN ?_ _)|(with_reducible refine Bk.new _ _ ?_;(first|with_reducible rfl|omega|(simp;done)|(simp;omega)))|(with_reducible refine Bk.alloc ?_ _)|(with_reducible refine Bk2.set01 ?_ _ _)|(with_reducible refine Bk2.drew ?_)|(with_reducible refine Bk2.new _ _ _ ?_;(first|with_reducible rfl|omega|(simp;done)|(simp;omega)))|(with_reducible refine Bk2.alloc ?_ _)|(with_reducible refine Bk2.keep ?_ (by with_reducible assumption))|(with_reducible refine Bk.keep ?_ (by with_reducible assumption)))
      ·repeat' (first|(with_reducible exact Below.refl _ _)|(with_reducible assumption)|(with_reducible refine bSz ?_ (by with_reducible assumption))|(with_reducible refine bAz ?_ _)|(with_reducible refine Below.drew ?_)|(with_reducible refine bD ?_ _)|(with_reducible refine Below.setCell ?_ ?_ _)|(simp;done)|(simp;omega)|omega)
   case rest =>
    obtain ⟨g,h,rfl,rfl,hgh,hg,hh,bg,bh,hbc⟩:=hcut;have br3:=br2.keep hbc;obtain ⟨g0,g1,fg0,fg1⟩:=bg.two;obtain ⟨h0,h1,_,_⟩:=bh.two;go_wp2_with fail;refine wp_loop_rounds 3 ?_;rw [rounds_succ];go_wp2_with fail
    go_region
    have hhg:h≠g:=Ne.symm hgh;generalize hM:(if a<c then c else a)=M;have HM:Hid (M=max a c):=by show M=max a c;rw [<- hM];split<;>omega
    clear hM;have bg2:=(bg.set 0 (.int .i64 M)).drew;have bh2:=(bh.apart (p:=⟨g,0,none⟩) hhg (.int .i64 M)).drew;have br4:=(br3.apart (p:=⟨g,0,none⟩) (by simp;omega) (.int .i64 M)).drew;have hbd:Below w2.heap.size w2 (wc.setCell ⟨g,0,none⟩ (.int .i64 M)).drew:=(hbc.setCell hg _).drew;generalize (wc.setCell ⟨g,0,none⟩ (.int .i64 M)).drew=wd at *;obtain ⟨k0,k1,fk0,fk1⟩:=bg2.two;obtain ⟨l0,l1,_,_⟩:=bh2.two;go_wp2_with fail;rw [rounds_succ];go_wp2_with fail
    go_region
    generalize hM2:(if b<d then d else b)=M2;have HM2:Hid (M2=max b d):=by show M2=max b d;rw [<- hM2];split<;>omega
    clear hM2;have bg3:=(bg2.set 1 (.int .i64 M2)).drew;have br5:=(br4.apart (p:=⟨g,1,none⟩) (by simp;omega) (.int .i64 M2)).drew;have hbe:Below w2.heap.size w2 (wd.setCell ⟨g,1,none⟩ (.int .i64 M2)).drew:=(hbd.setCell hg _).drew;generalize (wd.setCell ⟨g,1,none⟩ (.int .i64 M2)).drew=we at *;obtain ⟨m0,m1,_,_⟩:=bg3.two;go_wp2_with fail;rw [rounds_succ];go_wp2_with fail;refine (timeOf_any _ _ _).mono ?_;rintro e wf ⟨rfl,hbf⟩;have br6:=br5.keep hbf;obtain ⟨r0,r1,f0,f1⟩:=br6.two;go_wp2_with fail;refine bodyPost_ret (by simp [results,Tryz.results85,go_sem,set1a br6,set2b br6];try rfl) rfl ?_;refine ⟨ret_tv (by rw [HA.out,HM.out];simp [hs,ht]) (by rw [HB.out,HM2.out];simp [hs,ht]),?_⟩
    repeat' (first|(with_reducible exact Below.refl _ _)|(with_reducible assumption)|(with_reducible refine bSz ?_ (by with_reducible assumption))|(with_reducible refine bAz ?_ _)|(with_reducible refine Below.drew ?_)|(with_reducible refine bD ?_ _)|(with_reducible refine Below.setCell ?_ ?_ _)|(simp;done)|(simp;omega)|omega)
attribute [local go_sem ↓] Go.wp_at_zero Go.wp_at_succ
end Go.Proofs.YtpkfgjloepbfpaaGreatDoor
