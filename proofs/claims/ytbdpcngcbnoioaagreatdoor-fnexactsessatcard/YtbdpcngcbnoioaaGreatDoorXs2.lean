import Derived.Test.YtbdpcngcbnoioaaGreatDoorXs1
set_option maxRecDepth 100000
set_option maxHeartbeats 16000000
namespace Go.Proofs.YtbdpcngcbnoioaaGreatDoor
open Go.RowKit Go.Shelf
theorem RdF.within {B lo hi:Nat} {w w':World} (H:∀ x,lo<=x->x<hi->x<w.heap.size->w'.heap[x]?=w.heap[x]?):∀ {t:RT} {s:Value},ShF lo hi w t s->RdF B w t s->RdF B w' t s
 | .nil,_,h,_=>h.elim
 | .mk _ _ _ f,_,⟨g1,c1,cs1,e1,hl,hh,hb1,h1⟩,⟨g,c,cs,e,q1,q2,hg,hb,h⟩=>by
  subst e1;cases e;have hbk:Bk w' g1 cs 25:=by unfold Bk;rw [H g1 hl hh hb.lt];exact hb
  have hcs:cs1=cs:=by unfold Bk at hb hb1;rw [hb] at hb1;injection hb1 with hb1;injection hb1 with hb1;exact hb1.symm
  subst hcs;refine ⟨g1,c1,cs1,rfl,q1,q2,hg,hbk,fun i hi=>?_⟩;obtain ⟨k0,k1,sx,k2,hx⟩:=h i hi;obtain ⟨_,_,b,d,k3,hy⟩:=h1 i hi;rw [k2] at k3;cases k3;exact ⟨k0,k1,_,k2,RdF.within H hy hx⟩
theorem ShF.within {lo hi:Nat} {w w':World} (H:∀ x,lo<=x->x<hi->x<w.heap.size->w'.heap[x]?=w.heap[x]?):∀ {t:RT} {s:Value},ShF lo hi w t s->ShF lo hi w' t s
 | .nil,_,h=>h.elim
 | .mk _ _ _ f,_,⟨g,c,cs,e,hl,hh,hb,h⟩=>⟨g,c,cs,e,hl,hh,by unfold Bk;rw [H g hl hh hb.lt];exact hb,fun i hi=>by
  obtain ⟨q0,q1,b,d,q2,hx⟩:=h i hi;exact ⟨q0,q1,b,d,q2,ShF.within H hx⟩⟩
def Like (lo hi:Nat) (w w':World):Prop:=∀ x,lo<=x->x<hi->w'.heap[x]?=w.heap[x]?
theorem bk_like {w w':World} {lo hi g:Nat} {c:Array Value} {t:TypeId} (h:Bk w g c t) (H:Like lo hi w w') (h1:lo<=g) (h2:g<hi):Bk w' g c t:=by unfold Bk;rw [H g h1 h2];exact h
structure SxM (w:World) (B hi h1 h2 g gF gD:Nat) (cF cD:Array Value) (sp:Value) (s:XS):Prop where
 n1:B<=h1
 n2:h1<=h2
 n3:h2<=gF
 n4:gF<gD
 n5:gD<hi
 rd:RdF B w s.t sp
 sh:ShF B h1 w s.t sp
 ls:LsM w h1 h2 g s.K
 bF:Bk w gF cF 32
 sF:cF.size=s.f.length*2
 fF:Fill cF s.f s.f.length
 bD:Bk w gD cD 55
 sD:cD.size=s.d.length*5
 fD:FillK rowC 5 cD s.d s.d.length
abbrev mslS (g n:Nat):Value:= .slice (some ⟨g,0,none⟩) n n
theorem SxM.like {w w':World} {B hi h1 h2 g gF gD:Nat} {cF cD:Array Value} {sp:Value} {s:XS} (h:SxM w B hi h1 h2 g gF gD cF cD sp s) (H:Like B hi w w'):SxM w' B hi h1 h2 g gF gD cF cD sp s:=by
 have a1:=h.n1;have a2:=h.n2;have a3:=h.n3;have a4:=h.n4;have a5:=h.n5;exact ⟨h.n1,h.n2,h.n3,h.n4,h.n5,h.rd.within (fun x q1 q2 _=>H x (by omega) (by omega)) h.sh,h.sh.within fun x q1 q2 _=>H x (by omega) (by omega),h.ls.moved fun x _ q1 q2=>H x (by omega) (by omega),
  bk_like h.bF H (by omega) (by omega),h.sF,h.fF,bk_like h.bD H (by omega) (by omega),h.sD,h.fD⟩
theorem SxM.keep {w w':World} {B hi h1 h2 g gF gD:Nat} {cF cD:Array Value} {sp:Value} {s:XS} (h:SxM w B hi h1 h2 g gF gD cF cD sp s) (hb:Below w.heap.size w w') (hh:hi<=w.heap.size):SxM w' B hi h1 h2 g gF gD cF cD sp s :=
 h.like fun x _ h2=>hb.block x (by omega)
structure FewX (s:XS):Prop where
 t:s.t.nds<=1048576
 k:s.K.length<=1048576
 l:s.K.flatten.length<=1048576
 f:s.f.length<=1048576
 d:s.d.length<=1048576
theorem SxM.ses {w:World} {B hi h1 h2 g gF gD:Nat} {cF cD:Array Value} {sp:Value} {s:XS} (h:SxM w B hi h1 h2 g gF gD cF cD sp s) (hw:FewX s):SesX w sp (mslS g s.K.length) (mslS gF s.f.length) (mslS gD s.d.length) s where
 rd:=RdS.less (Nat.zero_le _) h.rd.rd
 ly:=(h.ls.ly hw.k hw.l).lyr
 ts:=Ts.of_blk h.bF h.fF (Nat.le_refl _) (by have:=hw.f;unfold maxLen;omega) (by have:=hw.f;omega)
 rs:=SlK.of_blk h.bD h.fD rowC_len (Nat.le_refl _) (by have:=hw.d;unfold maxLen;omega) (by have:=hw.d;omega)
abbrev set6 (w:World) (r:Nat) (a0 a1 a2 a3 a4 a5:Value):World:=(((((w.setCell ⟨r,0,none⟩ a0).setCell ⟨r,1,none⟩ a1).setCell ⟨r,2,none⟩ a2).setCell ⟨r,3,none⟩ a3).setCell ⟨r,4,none⟩ a4).setCell ⟨r,5,none⟩ a5
theorem set6_heap {w:World} {r x:Nat} {a0 a1 a2 a3 a4 a5:Value} (h:x≠r):(set6 w r a0 a1 a2 a3 a4 a5).heap[x]?=w.heap[x]? :=
 (((((Below.heap_setCell _ _ _ _ h).trans (Below.heap_setCell _ _ _ _ h)).trans (Below.heap_setCell _ _ _ _ h)).trans (Below.heap_setCell _ _ _ _ h)).trans (Below.heap_setCell _ _ _ _ h)).trans (Below.heap_setCell _ _ _ _ h)
theorem set6_bk {w:World} {r:Nat} {c0 c1 c2 c3 c4 c5:Value} {t:TypeId} (h:Bk w r #[c0,c1,c2,c3,c4,c5] t) (a0 a1 a2 a3 a4 a5:Value):Bk (set6 w r a0 a1 a2 a3 a4 a5) r #[a0,a1,a2,a3,a4,a5] t :=
 (((((h.set 0 a0).set 1 a1).set 2 a2).set 3 a3).set 4 a4).set 5 a5
theorem set6_below {N:Nat} {u w:World} {r:Nat} (h:Below N u w) (hr:N<=r) (a0 a1 a2 a3 a4 a5:Value):Below N u (set6 w r a0 a1 a2 a3 a4 a5) :=
 (((((h.setCell hr a0).setCell hr a1).setCell hr a2).setCell hr a3).setCell hr a4).setCell hr a5
abbrev z6:Array Value:=#[.int .i64 0, .int .i64 0, .slice none 0 0, .slice none 0 0, .slice none 0 0, .slice none 0 0]
abbrev MadeX (s:XS) (w:World) (e:Ending) (w':World):Prop:=∃ (h1 h2 g gF gD:Nat) (cF cD:Array Value) (b:Option Addr) (c:Nat),e= .returned (sv s.t.k s.t.n (.slice b s.t.m c) (mslS g s.K.length) (mslS gF s.f.length) (mslS gD s.d.length))/\SxM w' w.heap.size w'.heap.size h1 h2 g gF gD cF cD (.slice b s.t.m c) s/\Below w.heap.size w w'
theorem toSess_rt {s:XS} {sp si sf sd:Value} {w:World} (hw:FewX s) (h:SesX w sp si sf sd s) :
  Calls Tryz.prog 43 #[sv s.t.k s.t.n sp si sf sd] w (MadeX s w):=by
 have HW:=(show Hid (FewX s) from hw);have HS:=(show Hid (SesX w sp si sf sd s) from h);obtain ⟨a0,c0,a1,c1,a2,c2,a3,c3,rfl,rfl,rfl,rfl⟩:=h.sl;clear h hw;have bi:Bk (((w.alloc (.cells (sc s.t.k s.t.n (.slice a0 s.t.m c0) (.slice a1 s.K.length c1) (.slice a2 s.f.length c2) (.slice a3 s.d.length c3)) 77)).alloc (.cells z6 30)).alloc (.cells z6 30)) w.heap.size (sc s.t.k s.t.n (.slice a0 s.t.m c0) (.slice a1 s.K.length c1) (.slice a2 s.f.length c2) (.slice a3 s.d.length c3)) 77:=((Bk.new _ _ rfl).alloc _).alloc _;have br:Bk (((w.alloc (.cells (sc s.t.k s.t.n (.slice a0 s.t.m c0) (.slice a1 s.K.length c1) (.slice a2 s.f.length c2) (.slice a3 s.d.length c3)) 77)).alloc (.cells z6 30)).alloc (.cells z6 30)) (w.heap.size+1) z6 30:=(Bk.new (w:=w.alloc _) _ _ (by simp)).alloc _;have bo:Bk (((w.alloc (.cells (sc s.t.k s.t.n (.slice a0 s.t.m c0) (.slice a1 s.K.length c1) (.slice a2 s.f.length c2) (.slice a3 s.d.length c3)) 77)).alloc (.cells z6 30)).alloc (.cells z6 30)) (w.heap.size+1+1) z6 30:=Bk.new (w:=(w.alloc _).alloc _) _ _ (by simp);have hb0:Below w.heap.size w (((w.alloc (.cells (sc s.t.k s.t.n (.slice a0 s.t.m c0) (.slice a1 s.K.length c1) (.slice a2 s.f.length c2) (.slice a3 s.d.length c3)) 77)).alloc (.cells z6 30)).alloc (.cells z6 30)):=bAz (bAz (bAz (Below.refl _ _) _) _) _;have hz0:(((w.alloc (.cells (sc s.t.k s.t.n (.slice a0 s.t.m c0) (.slice a1 s.K.length c1) (.slice a2 s.f.length c2) (.slice a3 s.d.length c3)) 77)).alloc (.cells z6 30)).alloc (.cells z6 30)).heap.size=w.heap.size+3:=by simp
 have H1:=(show Hid _ from toPlan_rtF s.t HW.out.t (HS.out.rd.keep hb0));obtain ⟨x0,x1,x2,x3,x4,x5⟩:=bi.six;go_enter Tryz.func43,Tryz.ntmps43;go_wp2_with fail;generalize (((w.alloc (.cells (sc s.t.k s.t.n (.slice a0 s.t.m c0) (.slice a1 s.K.length c1) (.slice a2 s.f.length c2) (.slice a3 s.d.length c3)) 77)).alloc (.cells z6 30)).alloc (.cells z6 30))=W0 at *;refine Calls.mono H1.out ?_;rintro e w1 ⟨b5,d5,rfl,hr1,hb1⟩;generalize hO:w.heap.size+1+1=o at *;generalize hR:w.heap.size+1=r at *;have hro:r≠o:=by omega
 have hor:o≠r:=by omega
 have hio:w.heap.size≠o:=by omega
 have hwo:w.heap.size<=o:=by omega
 have hwr:w.heap.size<=r:=by omega
 have hs1:=hb1.size;have hbw1:=bSz hb0 hb1;have bi1:=bi.keep hb1;have br1:=br.keep hb1;have bo1:=bo.keep hb1;have HP1:=(show Hid (RdF W0.heap.size w1 s.t (.slice b5 s.t.m d5)) from hr1);clear x0 x1 x2 x3 x4 x5 bi br bo hr1 hb1 hb0 H1
 -- the plan is put down
 have bo2:=((bo1.set 0 (.int .i64 s.t.k)).set 1 (.int .i64 s.t.n)).set 2 (.slice b5 s.t.m d5);have br2:=((br1.apart (p:=⟨o,0,none⟩) hro (.int .i64 s.t.k)).apart (p:=⟨o,1,none⟩) hro (.int .i64 s.t.n)).apart (p:=⟨o,2,none⟩) hro (.slice b5 s.t.m d5);have bi2:=((bi1.apart (p:=⟨o,0,none⟩) hio (.int .i64 s.t.k)).apart (p:=⟨o,1,none⟩) hio (.int .i64 s.t.n)).apart (p:=⟨o,2,none⟩) hio (.slice b5 s.t.m d5);have hbw2:Below w.heap.size w (((w1.setCell ⟨o,0,none⟩ (.int .i64 s.t.k)).setCell ⟨o,1,none⟩ (.int .i64 s.t.n)).setCell ⟨o,2,none⟩ (.slice b5 s.t.m d5)):=((hbw1.setCell hwo _).setCell hwo _).setCell hwo _;have HK1:Hid (Like W0.heap.size w1.heap.size w1 (((w1.setCell ⟨o,0,none⟩ (.int .i64 s.t.k)).setCell ⟨o,1,none⟩ (.int .i64 s.t.n)).setCell ⟨o,2,none⟩ (.slice b5 s.t.m d5))):=fun x q1 _=>by
  have hx:x≠o:=by omega
  exact ((Below.heap_setCell _ _ _ _ hx).trans (Below.heap_setCell _ _ _ _ hx)).trans (Below.heap_setCell _ _ _ _ hx)
 have hz2:(((w1.setCell ⟨o,0,none⟩ (.int .i64 s.t.k)).setCell ⟨o,1,none⟩ (.int .i64 s.t.n)).setCell ⟨o,2,none⟩ (.slice b5 s.t.m d5)).heap.size=w1.heap.size:=by simp
 have H2:=(show Hid _ from toRowSS_m _ s.K _ (HS.out.ly.ly.keep hbw2));obtain ⟨p0,p1,p2,p3,p4,p5⟩:=bo1.six;have f0:=bo1.free 0;have f1:=bo1.free 1;have f2:=bo1.free 2;obtain ⟨x0,x1,x2,x3,x4,x5⟩:=bi2.six;clear bi1 br1 bo1 hbw1;go_wp2_with fail;generalize (((w1.setCell ⟨o,0,none⟩ (.int .i64 s.t.k)).setCell ⟨o,1,none⟩ (.int .i64 s.t.n)).setCell ⟨o,2,none⟩ (.slice b5 s.t.m d5))=u1 at *;refine Calls.mono H2.out ?_;rintro e w2 ⟨g2,rfl,hm2,hb2⟩;have hs2:=hb2.size;have hbw3:=bSz hbw2 hb2;have bi3:=bi2.keep hb2;have br3:=br2.keep hb2;have bo3:=bo2.keep hb2;have HP2:=(show Hid (LsM w2 u1.heap.size w2.heap.size g2 s.K) from hm2);have HB2:=(show Hid (Below u1.heap.size u1 w2) from hb2);clear x0 x1 x2 x3 x4 x5 p0 p1 p2 p3 p4 p5 f0 f1 f2 bi2 br2 bo2 hm2 hb2 hbw2 H2
 -- the lists
 have bo4:=bo3.set 3 (mslS g2 s.K.length);have br4:=br3.apart (p:=⟨o,3,none⟩) hro (mslS g2 s.K.length);have bi4:=bi3.apart (p:=⟨o,3,none⟩) hio (mslS g2 s.K.length);have hbw4:Below w.heap.size w (w2.setCell ⟨o,3,none⟩ (mslS g2 s.K.length)):=hbw3.setCell hwo _;have HK2:Hid (Like W0.heap.size w2.heap.size w2 (w2.setCell ⟨o,3,none⟩ (mslS g2 s.K.length))):=fun x q1 _=>Below.heap_setCell _ _ _ _ (show x≠o by omega);have hz4:(w2.setCell ⟨o,3,none⟩ (mslS g2 s.K.length)).heap.size=w2.heap.size:=by simp
 have H3:=(show Hid _ from toTimeS_any _ s.f _ (HS.out.ts.keep hbw4));obtain ⟨p0,p1,p2,p3,p4,p5⟩:=bo3.six;have f3:=bo3.free 3;obtain ⟨x0,x1,x2,x3,x4,x5⟩:=bi4.six;clear bi3 br3 bo3 hbw3;go_wp2_with fail;generalize (w2.setCell ⟨o,3,none⟩ (mslS g2 s.K.length))=u2 at *;refine Calls.mono H3.out ?_;rintro e w3 ⟨gF,cF,rfl,hgF,hbF,hcF,hfF,hb3⟩;have hs3:=hb3.size;have hlF:=hbF.lt;have hbw5:=bSz hbw4 hb3;have bi5:=bi4.keep hb3;have br5:=br4.keep hb3;have bo5:=bo4.keep hb3;have HP3:=(show Hid (Bk w3 gF cF 32/\cF.size=s.f.length*2/\Fill cF s.f s.f.length) from ⟨hbF,hcF,hfF⟩);have HB3:=(show Hid (Below u2.heap.size u2 w3) from hb3);clear x0 x1 x2 x3 x4 x5 p0 p1 p2 p3 p4 p5 f3 bi4 br4 bo4 hbF hcF hfF hb3 hbw4 H3
 -- the front
 have bo6:=bo5.set 4 (mslS gF s.f.length);have br6:=br5.apart (p:=⟨o,4,none⟩) hro (mslS gF s.f.length);have bi6:=bi5.apart (p:=⟨o,4,none⟩) hio (mslS gF s.f.length);have hbw6:Below w.heap.size w (w3.setCell ⟨o,4,none⟩ (mslS gF s.f.length)):=hbw5.setCell hwo _;have HK3:Hid (Like W0.heap.size w3.heap.size w3 (w3.setCell ⟨o,4,none⟩ (mslS gF s.f.length))):=fun x q1 _=>Below.heap_setCell _ _ _ _ (show x≠o by omega);have hz6:(w3.setCell ⟨o,4,none⟩ (mslS gF s.f.length)).heap.size=w3.heap.size:=by simp
 have H4:=(show Hid _ from toRowS_any _ s.d _ (HS.out.rs.keep hbw6));obtain ⟨p0,p1,p2,p3,p4,p5⟩:=bo5.six;have f4:=bo5.free 4;obtain ⟨x0,x1,x2,x3,x4,x5⟩:=bi6.six;clear bi5 br5 bo5 hbw5;go_wp2_with fail;generalize (w3.setCell ⟨o,4,none⟩ (mslS gF s.f.length))=u3 at *;refine Calls.mono H4.out ?_;rintro e w4 ⟨gD,cD,rfl,hgD,hbD,hcD,hfD,hb4⟩;have hs4:=hb4.size;have hlD:=hbD.lt;have hbw7:=bSz hbw6 hb4;have br7:=br6.keep hb4;have bo7:=bo6.keep hb4;have HB4:=(show Hid (Below u3.heap.size u3 w4) from hb4);have HP4:=(show Hid (Bk w4 gD cD 55/\cD.size=s.d.length*5/\FillK rowC 5 cD s.d s.d.length) from ⟨hbD,hcD,hfD⟩);clear x0 x1 x2 x3 x4 x5 p0 p1 p2 p3 p4 p5 f4 bi6 br6 bo6 hbD hcD hfD hb4 hbw6 H4
 -- what was told,and the whole
 have bo8:=bo7.set 5 (mslS gD s.d.length);have br8:=br7.apart (p:=⟨o,5,none⟩) hro (mslS gD s.d.length);have hbw8:Below w.heap.size w (w4.setCell ⟨o,5,none⟩ (mslS gD s.d.length)):=hbw7.setCell hwo _;have br9:=set6_bk br8 (.int .i64 s.t.k) (.int .i64 s.t.n) (.slice b5 s.t.m d5) (mslS g2 s.K.length) (mslS gF s.f.length) (mslS gD s.d.length);have HBW:Hid (Below w.heap.size w (set6 (w4.setCell ⟨o,5,none⟩ (mslS gD s.d.length)) r (.int .i64 s.t.k) (.int .i64 s.t.n) (.slice b5 s.t.m d5) (mslS g2 s.K.length) (mslS gF s.f.length) (mslS gD s.d.length))):=set6_below hbw8 hwr _ _ _ _ _ _;have hzU:(set6 (w4.setCell ⟨o,5,none⟩ (mslS gD s.d.length)) r (.int .i64 s.t.k) (.int .i64 s.t.n) (.slice b5 s.t.m d5) (mslS g2 s.K.length) (mslS gF s.f.length) (mslS gD s.d.length)).heap.size=w4.heap.size:=by simp
 have HM:Hid (SxM (set6 (w4.setCell ⟨o,5,none⟩ (mslS gD s.d.length)) r (.int .i64 s.t.k) (.int .i64 s.t.n) (.slice b5 s.t.m d5) (mslS g2 s.K.length) (mslS gF s.f.length) (mslS gD s.d.length)) w.heap.size (set6 (w4.setCell ⟨o,5,none⟩ (mslS gD s.d.length)) r (.int .i64 s.t.k) (.int .i64 s.t.n) (.slice b5 s.t.m d5) (mslS g2 s.K.length) (mslS gF s.f.length) (mslS gD s.d.length)).heap.size w1.heap.size w2.heap.size g2 gF gD cF cD (.slice b5 s.t.m d5) s):=by
  have k4:Like W0.heap.size w4.heap.size w4 (set6 (w4.setCell ⟨o,5,none⟩ (mslS gD s.d.length)) r (.int .i64 s.t.k) (.int .i64 s.t.n) (.slice b5 s.t.m d5) (mslS g2 s.K.length) (mslS gF s.f.length) (mslS gD s.d.length)):=fun x q1 _=>(set6_heap (show x≠r by omega)).trans (Below.heap_setCell _ _ _ _ (show x≠o by omega));have k3:Like W0.heap.size w3.heap.size w3 (set6 (w4.setCell ⟨o,5,none⟩ (mslS gD s.d.length)) r (.int .i64 s.t.k) (.int .i64 s.t.n) (.slice b5 s.t.m d5) (mslS g2 s.K.length) (mslS gF s.f.length) (mslS gD s.d.length)):=fun x q1 q2=>((k4 x q1 (by omega)).trans (HB4.out.block x (by omega))).trans (HK3.out x q1 q2);have k2:Like W0.heap.size w2.heap.size w2 (set6 (w4.setCell ⟨o,5,none⟩ (mslS gD s.d.length)) r (.int .i64 s.t.k) (.int .i64 s.t.n) (.slice b5 s.t.m d5) (mslS g2 s.K.length) (mslS gF s.f.length) (mslS gD s.d.length)):=fun x q1 q2=>((k3 x q1 (by omega)).trans (HB3.out.block x (by omega))).trans (HK2.out x q1 q2);have k1:Like W0.heap.size w1.heap.size w1 (set6 (w4.setCell ⟨o,5,none⟩ (mslS gD s.d.length)) r (.int .i64 s.t.k) (.int .i64 s.t.n) (.slice b5 s.t.m d5) (mslS g2 s.K.length) (mslS gF s.f.length) (mslS gD s.d.length)):=fun x q1 q2=>((k2 x q1 (by omega)).trans (HB2.out.block x (by omega))).trans (HK1.out x q1 q2);obtain ⟨t1,t2,t3⟩:=HP3.out;obtain ⟨t4,t5,t6⟩:=HP4.out;have sh1:=HP1.out.form;refine ⟨by omega,by omega,by omega,by omega,by omega,RdF.less (by omega) (HP1.out.move fun x q1 q2=>k1 x q1 q2),?_,?_,bk_like t1 k3 (by omega) hlF,t2,t3,bk_like t4 k4 (by omega) hlD,t5,t6⟩
  ·exact ShF.less (by omega) (sh1.within fun x q1 q2 _=>k1 x q1 q2)
  ·have:=HP2.out;rw [hz2] at this;exact this.moved fun x _ q1 q2=>k2 x (by omega) q2
 obtain ⟨p0,p1,p2,p3,p4,p5⟩:=bo7.six;have f5:=bo7.free 5;obtain ⟨x0,x1,x2,x3,x4,x5⟩:=bo8.six;obtain ⟨y0,y1,y2,y3,y4,y5⟩:=br8.six;have g0:=br8.free 0;have g1:=br8.free 1;have g2':=br8.free 2;have g3:=br8.free 3;have g4:=br8.free 4;have g5:=br8.free 5;have HY:=(show Hid (Bk _ _ _ _) from br9);clear br7 bo7 bo8 br8 br9 hbw7 hbw8 hzU;go_wp2_with fail;obtain ⟨q0,q1,q2,q3,q4,q5⟩:=HY.out.six;refine bodyPost_ret (v:=sv s.t.k s.t.n (.slice b5 s.t.m d5) (mslS g2 s.K.length) (mslS gF s.f.length) (mslS gD s.d.length)) (by simp [results,Tryz.results43,go_sem,q0,q1,q2,q3,q4,q5]) rfl ?_;exact ⟨_,_,_,_,_,_,_,_,_,rfl,HM.out,HBW.out⟩
end Go.Proofs.YtbdpcngcbnoioaaGreatDoor
