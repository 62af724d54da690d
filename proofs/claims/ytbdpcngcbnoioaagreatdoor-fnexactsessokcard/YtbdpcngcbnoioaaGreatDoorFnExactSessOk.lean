/- At whatever plan at work, its plan of whatever kinds and numbers, its parts as many and as deep as they may be, its rows, front and what was told whatever they are, SessOk of the program answers as SessOk of the model (more than 1048576 parts, lists, rows and times together are passed by, as the law says), and leaves the plan at work as it was: the exact law of SessOk (FnExactSessOk). Conditions: those of the row alone (the listed variable holds what the program text lays; the argument reads as the form asks; package variables of the library are of their types). -/
import Derived.Test.YtbdpcngcbnoioaaGreatDoorXs2
import Derived.Test.YtbdpcngcbnoioaaGreatDoorXs3
import Derived.Test.YtbdpcngcbnoioaaGreatDoorAne
import Derived.Test.YtbdpcngcbnoioaaGreatDoorPf
import Derived.Test.YtbdpcngcbnoioaaGreatDoorPfg
import Derived.Test.YtbdpcngcbnoioaaGreatDoorTie
set_option maxRecDepth 100000
set_option maxHeartbeats 16000000
namespace Go.Proofs.YtbdpcngcbnoioaaGreatDoor
open Go.RowKit Go.Shelf
theorem FnExactSessOk.walk (ea:Addr) (t:RT) (s0:Value) (a1:Option Addr) (len cap:Nat) (ns:Nat->Nat) (a2:Option Addr) (m cb:Nat) (a3:Option Addr) (q cd:Nat) (w:World) (hf:t.fits) (hs:RdS 0 w t s0) (h1:LsArg w a1 len cap ns) (h2:TsArg w a2 m cb) (h3:RsArg w a3 q cd) (hpw:Pow w) (hg:w.cell? ⟨0,0,none⟩=some (erV ea)) :
  Calls Tryz.prog 11 #[sv t.k t.n s0 (.slice a1 len cap) (.slice a2 m cb) (.slice a3 q cd)] w fun e w'=>e= .returned (.bool true)/\Below w.heap.size w w':=by
 obtain ⟨a0,c0,rfl,_,_⟩:=hs.sl;have bA:Bk (w.alloc (.cells (sc t.k t.n (.slice a0 t.m c0) (.slice a1 len cap) (.slice a2 m cb) (.slice a3 q cd)) 77)) w.heap.size (sc t.k t.n (.slice a0 t.m c0) (.slice a1 len cap) (.slice a2 m cb) (.slice a3 q cd)) 77:=Bk.new _ _ rfl;have hb0:Below w.heap.size w (w.alloc (.cells (sc t.k t.n (.slice a0 t.m c0) (.slice a1 len cap) (.slice a2 m cb) (.slice a3 q cd)) 77)):=bAz (Below.refl _ _) _;have HZ:=(show Hid _ from szSess_rt (left:=1048576) (hs.keep hb0) (h1.keep hb0) (h2.keep hb0) (h3.keep hb0) (by omega) (by omega));have HA:=(show Hid (Bk _ _ _ _) from bA);obtain ⟨x0,x1,x2,x3,x4,x5⟩:=bA.six
 by_cases hbig:(1048576:Int)<((t.nds+(len+sumN ns len)+m+q:Nat):Int)
 ·have hz:szV 1048576 (t.nds+(len+sumN ns len)+m+q) = -1:=if_pos hbig;rw [hz] at HZ;clear hz hbig hs h1 h2 h3 hpw hf bA HA;go_enter Tryz.func11,Tryz.ntmps11;go_wp2_with fail;refine Calls.mono HZ.out ?_;rintro e w1 ⟨rfl,hb1⟩;have hbw1:=bSz hb0 hb1;clear x0 x1 x2 x3 x4 x5 hb1;go_wp2_with fail;go_ret;exact ⟨rfl,hbw1⟩
 have hz:szV 1048576 (t.nds+(len+sumN ns len)+m+q)=1048576-((t.nds+(len+sumN ns len)+m+q:Nat):Int):=if_neg hbig;rw [hz] at HZ;obtain ⟨Z,hZ⟩:∃ Z:Int,1048576-((t.nds+(len+sumN ns len)+m+q:Nat):Int)=Z:=⟨_,rfl⟩;have hz0:¬ (Z<0):=by omega
 rw [hZ] at HZ;obtain ⟨L,hL1,hLy,hfl⟩:=h1.ly (by omega);obtain ⟨F,hF1,hTs⟩:=h2.ts (by omega);obtain ⟨D,hD1,hRs⟩:=h3.rs (by omega);have HW0:FewX ⟨t,L,F,D⟩:=⟨by show t.nds<=_;omega,by show L.length<=_;omega,by show L.flatten.length<=_;omega,by show F.length<=_;omega,by show D.length<=_;omega⟩;clear hZ hz hbig;subst hL1 hF1 hD1;obtain ⟨s,et,ek,ef,ed⟩:∃ s:XS,s.t=t/\s.K=L/\s.f=F/\s.d=D:=⟨⟨t,L,F,D⟩,rfl,rfl,rfl,rfl⟩;have HW:Hid (FewX s):=by subst et ek ef ed;exact HW0
 subst et ek ef ed;have HS:Hid (SesX w (.slice a0 s.t.m c0) (.slice a1 s.K.length cap) (.slice a2 s.f.length cb) (.slice a3 s.d.length cd) s):=⟨hs,hLy.lyr,hTs,hRs⟩;have HP:=(show Hid (Pow w/\s.t.fits) from ⟨hpw,hf⟩);obtain ⟨b,HE⟩:∃ b,Hid ((allX s).isSome=b):=⟨_,rfl⟩;clear hs h1 h2 h3 hpw hf bA HW0 hLy hTs hRs hfl;go_enter Tryz.func11,Tryz.ntmps11;go_wp2_with fail;generalize (w.alloc (.cells (sc s.t.k s.t.n (.slice a0 s.t.m c0) (.slice a1 s.K.length cap) (.slice a2 s.f.length cb) (.slice a3 s.d.length cd)) 77))=W0 at *;refine Calls.mono HZ.out ?_;rintro e w1 ⟨rfl,hb1⟩;have hbw1:=bSz hb0 hb1;have HA1:=(show Hid (Bk _ _ _ _) from HA.out.keep hb1);have H1:=(show Hid _ from toSess_rt HW.out (HS.out.keep hbw1));clear x0 x1 x2 x3 x4 x5 hb1 HZ hb0 HA;obtain ⟨x0,x1,x2,x3,x4,x5⟩:=HA1.out.six;go_wp2_with fail;refine Calls.mono H1.out ?_;rintro e w2 ⟨h1',h2',g,gF,gD,cF,cD,b2,c2,rfl,hM2,hb2⟩;have hbw2:=bSz hbw1 hb2;have HA2:=(show Hid (Bk _ _ _ _) from HA1.out.keep hb2);have H2:=(show Hid _ from specSessOk_rt HE.out (hM2.ses HW.out));clear x0 x1 x2 x3 x4 x5 hb2 H1 HA1 hM2;go_wp2_with fail;refine Calls.mono H2.out ?_;rintro e w3 ⟨rfl,hb3⟩;have hbw3:=bSz hbw2 hb3;have HA3:=(show Hid (Bk _ _ _ _) from HA2.out.keep hb3);have H3:=(show Hid _ from toSess_rt HW.out (HS.out.keep hbw3));obtain ⟨x0,x1,x2,x3,x4,x5⟩:=HA3.out.six;clear hb3 H2 HA2;go_wp2_with fail;refine Calls.mono H3.out ?_;rintro e w4 ⟨l1,l2,g4,gF4,gD4,cF4,cD4,b4,c4,rfl,hM4,hb4⟩;have hbw4:=bSz hbw3 hb4;have hal:Below w4.heap.size w4 (w4.alloc (.cells (sc s.t.k s.t.n (.slice b4 s.t.m c4) (mslS g4 s.K.length) (mslS gF4 s.f.length) (mslS gD4 s.d.length)) 30)):=bAz (Below.refl _ _) _;have HX5:=(show Hid (Bk _ _ _ _) from Bk.new (w:=w4) (sc s.t.k s.t.n (.slice b4 s.t.m c4) (mslS g4 s.K.length) (mslS gF4 s.f.length) (mslS gD4 s.d.length)) 30 rfl);have HA5:=(show Hid (Bk _ _ _ _) from (HA3.out.keep hb4).keep hal);have hbw5:=bSz hbw4 hal;have HM5:=(show Hid (SesX _ _ _ _ _ _) from (hM4.ses HW.out).keep hal);have H4:=(show Hid _ from implSessOk_rt ea HE.out HP.out.2 (An.pow_keep HP.out.1 hbw5 rfl) HM5.out (cB hbw5 hg));clear x0 x1 x2 x3 x4 x5 hb4 H3 HA3 hM4 hal;obtain ⟨x0,x1,x2,x3,x4,x5⟩:=HX5.out.six;go_wp2_with fail;generalize (w4.alloc (.cells (sc s.t.k s.t.n (.slice b4 s.t.m c4) (mslS g4 s.K.length) (mslS gF4 s.f.length) (mslS gD4 s.d.length)) 30))=w5 at *;generalize w4.heap.size=xb at *;refine Calls.mono H4.out ?_;rintro e w6 ⟨rfl,hb6⟩;have hbw6:=bSz hbw5 hb6;have HA6:=(show Hid (Bk _ _ _ _) from HA5.out.keep hb6);have HX6:=(show Hid (Bk _ _ _ _) from HX5.out.keep hb6);have HM6:=(show Hid (SesX _ _ _ _ _ _) from HM5.out.keep hb6);have hd:Below w6.heap.size w6 w6.drew:=(Below.refl _ _).drew;have HT:Hid (∀ V:World,Below w6.heap.size w6 V->Calls Tryz.prog 43 #[sv s.t.k s.t.n (.slice a0 s.t.m c0) (.slice a1 s.K.length cap) (.slice a2 s.f.length cb) (.slice a3 s.d.length cd)] V (MadeX s V)):=fun V hV=>toSess_rt HW.out (HS.out.keep (bSz hbw6 hV));have HQ:Hid (∀ (V:World) (sp si sf sd:Value),Below w6.heap.size w6 V->SesX V sp si sf sd s->Calls Tryz.prog 44 #[sv s.t.k s.t.n (.slice b4 s.t.m c4) (mslS g4 s.K.length) (mslS gF4 s.f.length) (mslS gD4 s.d.length),sv s.t.k s.t.n sp si sf sd] V fun e w'=>e= .returned (.bool true)/\Below V.heap.size V w'):=fun V sp si sf sd hV h=>eqSess_rt (HM6.out.keep hV) h;have HV:Hid (∀ V,Below w6.heap.size w6 V->(V.cell? ⟨w.heap.size,0,none⟩=some (.int .i64 s.t.k)/\V.cell? ⟨w.heap.size,1,none⟩=some (.int .i64 s.t.n)/\V.cell? ⟨w.heap.size,2,none⟩=some (.slice a0 s.t.m c0)/\V.cell? ⟨w.heap.size,3,none⟩=some (.slice a1 s.K.length cap)/\V.cell? ⟨w.heap.size,4,none⟩=some (.slice a2 s.f.length cb)/\V.cell? ⟨w.heap.size,5,none⟩=some (.slice a3 s.d.length cd))/\(V.cell? ⟨xb,0,none⟩=some (.int .i64 s.t.k)/\V.cell? ⟨xb,1,none⟩=some (.int .i64 s.t.n)/\V.cell? ⟨xb,2,none⟩=some (.slice b4 s.t.m c4)/\V.cell? ⟨xb,3,none⟩=some (mslS g4 s.K.length)/\V.cell? ⟨xb,4,none⟩=some (mslS gF4 s.f.length)/\V.cell? ⟨xb,5,none⟩=some (mslS gD4 s.d.length))):=fun V hV=>⟨(HA6.out.keep hV).six,(HX6.out.keep hV).six⟩;clear x0 x1 x2 x3 x4 x5 hb6 H4 HA5 HX5 HM5 HA6 HX6
 go_upto_region 10 with fail
 obtain ⟨⟨i0,i1,i2,i3,i4,i5⟩,i6,i7,i8,i9,ia,ib⟩:=HV.out _ hd
 go_region_law (first|(go_simp;go_at_call 43;refine Calls.mono (HT.out _ hd) ?_;rintro e w7 ⟨_,_,g7,gF7,gD7,_,_,b7,c7,rfl,hM7,hb7⟩;have hM7':=hM7.ses HW.out;have hc7:Below w6.heap.size w6 w7:=bSz hd hb7;obtain ⟨⟨j0,j1,j2,j3,j4,j5⟩,j6,j7,j8,j9,ja,jb⟩:=HV.out _ hc7)|(go_simp;go_at_call 44;refine Calls.mono (HQ.out _ _ _ _ _ hc7 hM7') ?_;rintro e w8 ⟨rfl,hb8⟩;have hc8:Below w6.heap.size w6 w8:=bSz hc7 hb8;obtain ⟨⟨k0,k1,k2,k3,k4,k5⟩,k6,k7,k8,k9,ka,kb⟩:=HV.out _ hc8))
 all_goals
  go_wp2_with fail;go_ret;exact ⟨rfl,bSz hbw6 hc8⟩
set_option maxRecDepth 100000
set_option maxHeartbeats 4000000
open Go.ChangeShapes Go.WideShapes Go.Extern.Stop Go.Stop Go.Extern
namespace RowFnExactSessOk
theorem own:ownKnob Tryz.prog.godebug=none:=by kernel_rfl
theorem gO:Tryz.prog.globalNamed "loop.example/tideline/impl.errCannotBe" = some 0:=by kernel_rfl
theorem gOType:(Tryz.prog.globals[0]?).map (·.type)=some 163:=by kernel_rfl
theorem cellsE:Tryz.prog.cellsOf 362=1:=by kernel_rfl
theorem cellsS:Tryz.prog.cellsOf 9=1:=by kernel_rfl
theorem star : "*" ++ "errors.errorString" = "*errors.errorString" := by decide
theorem rowE (u:TypeId) (h:Tryz.prog.typeName? 3 u=some "*errors.errorString"):u=327 :=
 typeName_ptr_named (nm := "errors.errorString") (by rw [star];kernel_rfl) (by kernel_rfl) (by decide) u (by rw [star];exact h)
abbrev textB:ByteArray:={ data:=#[99,97,110,110,111,116,32,98,101] }
noncomputable def low:Nat:=(World.holding Tryz.prog default ⟨#[],#[],[]⟩).heap.size
noncomputable def laidWorld (os:Os):World :=
 let w0:=World.holding Tryz.prog os ⟨#[.cells #[.string textB] 362],#[],[]⟩
 { w0 with heap:=w0.heap.modify 0 fun
   | .cells _ t frozen=> .cells #[.iface 327 (.pointer (some ⟨low,0,none⟩))] t frozen
   | o=>o }
theorem laid_met (os:Os) (args:Array Value):laidMetH Tryz.prog Rows.fnExactSessOkRow.laid ((laidWorld os).forCall (fun _ _=>0) ⟨#[],args,[]⟩).memory :=
 laidMet_of_run (ps:=[.cell 0 0, .cell low 0]) 8 (by kernel_rfl) (by kernel_rfl) (by kernel_rfl)
theorem lifted (os:Os) (started:os.Started) (H:Type) (enc:TypeId×Value->H) :
  ReturnsInHanded {} Tryz.checked os 11 .any (fun w args=>(Rows.fnExactSessOkSpec.pre enc Tryz.prog Tryz.f11 [] false w args/\laidMetH Tryz.prog Rows.fnExactSessOkRow.laid w)/\sizedMet enc Tryz.prog Tryz.f11 (OpenSpec.ofChange Rows.fnExactSessOkSpec) false w args)
   (Rows.fnExactSessOkSpec.post enc Tryz.prog Tryz.f11 false true false false):=by
 refine change_and_shaped (C:=Tryz.checked) (X:=fun w _=>laidMetH Tryz.prog Rows.fnExactSessOkRow.laid w) (fun _ _ _ hh h=>h.of_heap hh) own started (by kernel_rfl) Tryz.func11
  (ChangeSpec.witness_at (enc:=enc) (C:=Tryz.checked) (os:=os) (X:=fun w _=>laidMetH Tryz.prog Rows.fnExactSessOkRow.laid w) false (laidWorld os) #[.agg #[.int .i64 0, .int .i64 0, .slice none 0 0, .slice none 0 0, .slice none 0 0, .slice none 0 0]] 8 rfl (by kernel_rfl) (by kernel_rfl) (by kernel_rfl) (by kernel_rfl) (by kernel_rfl) (laid_met os _)) ?_
 intro W base args ds gs before hval0 hW hL hsh;have hval:∀ (j:Nat) t v,Tryz.f11.params[j]?=some t->args[j]?=some v->Value.okWide Tryz.prog W .any base t v:=hval0;have hW':=hW;obtain ⟨p,q,hA0,hV0,rfl,hfz,hnd⟩:=hW;have hA:DataW.TrodAll enc Tryz.prog W 0 (fun _=>true) true Tryz.f11.params.toList args.toList ds p:=hA0;have hV:DataW.TrodVars enc Tryz.prog W (fun _=>true) ["loop.example/tideline/impl.errCannotBe"] gs q:=hV0;rw [Tryz.params11] at hA hval;obtain ⟨v0,vs0,d0,ds0,p0,q0,hargs,rfl,rfl,h0,r0⟩:=trodAll_cons hA;obtain ⟨rfl,rfl,rfl⟩:=trodAll_nil r0;obtain rfl:args=#[v0]:=by cases args;simp_all
 obtain ⟨ae,s1,hv1,hc1,hs1,hz1⟩:=laid_sentinel (show laidMet Tryz.prog Rows.fnExactSessOkRow.laid W from hL) gO gOType Tryz.underlying163 rowE Tryz.underlying327 Tryz.underlying362 rfl rfl Tryz.underlying9 cellsE cellsS;obtain ⟨rfl,rfl⟩:=hV.unique (vars_read1 enc gO gOType Tryz.underlying163 hv1 trivial _);have hg1:W.cell? ⟨0,0,none⟩=some (erV ae):=by simpa using World.var?_cell gO hv1 0
 have hpw:=pow_open W hsh;have k0:=h0;have lt0:∀ x∈p0,x.block<W.heap.size:=by obtain ⟨m,hm⟩:=k0;exact DataW.trod_lt m _ _ _ hm
 obtain ⟨cs0,hc0,_⟩:=okWide_struct Tryz.underlying77 (hval 0 77 v0 rfl rfl);obtain ⟨t,s0,la,len,cap,ns,ta,tm,tc,ra,rq,rc,rfl,hft,hrd,hls,hts,hrs⟩:=read_sess hc0 k0;clear hA0 hval0;refine (FnExactSessOk.walk ae t s0 la len cap ns ta tm tc ra rq rc W hft hrd hls hts hrs hpw hg1).mono fun e W' ⟨he,bel⟩=>?_;subst he;have hv2:W'.var? Tryz.prog "loop.example/tideline/impl.errCannotBe" = some #[erV ae]:=by
  have h00:W'.heap[0]?=W.heap[0]?:=bel.block 0 (lC hg1);unfold World.var? at hv1 ⊢;rw [gO] at hv1 ⊢;simp only [Option.bind_some,h00] at hv1 ⊢;exact hv1
 exact ⟨_,rfl,_,_,_,[],_,[.cell 0 0],hW',trodAll_mk1 (shut_bool Tryz.underlying4 _),(trodAll_cons_mk (Below.trod pfLaid (by kernel_rfl) (of_decide_eq_true (by kernel_rfl)) k0 bel lt0) trodAll_mk0),vars_read1 enc gO gOType Tryz.underlying163 hv2 trivial _,bel.frame _,fun h=>by cases h⟩
theorem closed:joinedFacts Tryz.prog 11 Tryz.f11 Rows.fnExactSessOkSpec Rows.fnExactSessOkRow=true:=by
 unfold joinedFacts;exact (andB (andB (andB (andB (andB (andB (andB (andB (andB (andB (andB (andB (andB (andB (andB (andB (andB (andB (andB (andB (andB (andB (andB (andB (andB (andB (andB (andB (andB (andB (andB (by as_aux_lemma=>kernel_rfl) pfLaid) pfRowed) (by as_aux_lemma=>kernel_rfl)) (by as_aux_lemma=>kernel_rfl)) (by as_aux_lemma=>kernel_rfl)) (by as_aux_lemma=>kernel_rfl)) (by as_aux_lemma=>kernel_rfl)) (by as_aux_lemma=>kernel_rfl)) (by as_aux_lemma=>kernel_rfl)) (by as_aux_lemma=>kernel_rfl)) (by as_aux_lemma=>kernel_rfl)) (by as_aux_lemma=>kernel_rfl)) (by as_aux_lemma=>kernel_rfl)) (by as_aux_lemma=>kernel_rfl)) (by as_aux_lemma=>kernel_rfl)) (by as_aux_lemma=>kernel_rfl)) (by as_aux_lemma=>kernel_rfl)) (by as_aux_lemma=>kernel_rfl)) (by as_aux_lemma=>kernel_rfl)) (by as_aux_lemma=>kernel_rfl)) (by as_aux_lemma=>kernel_rfl)) (by as_aux_lemma=>kernel_rfl)) (by as_aux_lemma=>kernel_rfl)) pfHeard) pfEnter) (pfLiftB rfl)) (pfMakeB rfl)) (by as_aux_lemma=>kernel_rfl)) (by as_aux_lemma=>kernel_rfl)) (by as_aux_lemma=>kernel_rfl)) (by as_aux_lemma=>kernel_rfl))
theorem over:Rows.fnExactSessOkRow.holds Tryz.pinned (OpenSpec.ofChange Rows.fnExactSessOkSpec) :=
 OpenClaim.holds_of_wide 11 Tryz.f11 rfl rfl rfl rfl rfl rfl rfl ⟨rfl,rfl,rfl,rfl,rfl⟩ rfl rfl rfl rfl rfl (by kernel_rfl) Tryz.func11 closed
  (of_decide_eq_true (by kernel_rfl)) (by unfold Func.isWrapper;first|(rw [if_pos (by decide +kernel)];kernel_rfl)|(rw [if_neg (by decide +kernel)];exact ⟨rfl,rfl⟩))
  (fun os started H enc _=>lifted os started H enc)
end RowFnExactSessOk
theorem fnExactSessOk_card:Rows.FnExactSessOkCardSaid :=
 Claim7.holds_tied_plain_at .later [] [.sentinel] true Rows.fnExactSessOkCard.stood.harness true
  RowFnExactSessOk.over (fun _ h=>by cases h) (by kernel_rfl) (fun _ h=>by cases h) fnExactSessOk_row_tie rfl ⟨rfl,rfl⟩ (pfMain.trans (by kernel_rfl)) rfl
  (fun f fn hf hfn=>by
   obtain rfl:f=11:=Option.some.inj ((show Tryz.prog.funcNamed "loop.example/tideline/laws.FnExactSessOk" = some 11 by kernel_rfl).symm.trans hf) |>.symm
   obtain rfl:fn=Tryz.f11:=(Option.some.inj (Tryz.func11.symm.trans hfn)).symm;exact ⟨pfLooks,fun j t ht=>by
    rw [Tryz.params11] at ht;have h3:t=77:=by
     rcases j with _|j
     ·simpa using ht.symm
     ·simp at ht
    subst h3;exact (show Tryz.prog.wantsStandIn 77=false by kernel_rfl)⟩)
  (by kernel_rfl)
end Go.Proofs.YtbdpcngcbnoioaaGreatDoor
