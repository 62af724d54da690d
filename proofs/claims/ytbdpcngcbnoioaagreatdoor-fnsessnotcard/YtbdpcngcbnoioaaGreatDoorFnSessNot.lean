/- For all bytes: SessAt of the program answers of the plan at work and the time that they draw as the model; what it tells is of a time that is settled, and what was told of it; else nothing; the argument reads afterwards as before. No condition. -/
import Derived.Test.YtbdpcngcbnoioaaGreatDoorGp1
import Derived.Test.YtbdpcngcbnoioaaGreatDoorPfd
import Derived.Test.YtbdpcngcbnoioaaGreatDoorQc7
import Derived.Test.YtbdpcngcbnoioaaGreatDoorQe2
import Derived.Test.YtbdpcngcbnoioaaGreatDoorPfg
import Derived.Test.YtbdpcngcbnoioaaGreatDoorTie
import Derived.ChangeSame
import Derived.ChangeVars
import Derived.RowKit
import Derived.LaidLaws
import Derived.LaidHandle
import Derived.Stop.Joined
import Derived.Stop.LaidErr
namespace Go.Proofs.YtbdpcngcbnoioaaGreatDoor
theorem andB {a b:Bool} (h:a=true) (k:b=true):(a&&b)=true:=by rw [h,k];rfl
theorem pfLiftB {x:Bool} (h:x=false):(x==Tryz.prog.liftsFinal)=true:=by rw [pfLift,h];rfl
theorem pfMakeB {x:Make} (h:x= .cut):(Tryz.prog.make==some x)=true:=by rw [pfMake,h];decide
end Go.Proofs.YtbdpcngcbnoioaaGreatDoor
set_option maxRecDepth 100000
set_option maxHeartbeats 8000000
namespace Go.Proofs.YtbdpcngcbnoioaaGreatDoor
open Go.RowKit
namespace FnSessNot
theorem walk (ea:Addr) (x0:Option Addr) (len0 cap0:Nat) (w:World) (h0:Src w (.slice x0 len0 cap0) len0) (hg:w.cell? ⟨0,0,none⟩=some (erV ea)) :
  Calls Tryz.prog 9 #[.slice x0 len0 cap0] w fun e w'=>e= .returned (.bool true)/\Below w.heap.size w w':=by
 by_cases g0:(1048576:Int)<(len0:Int)
 ·go_enter Tryz.func9,Tryz.ntmps9;go_wp2_with fail;go_ret;exact ⟨rfl,Below.refl _ _⟩
 go_enter Tryz.func9,Tryz.ntmps9;go_wp2_with fail;refine (drawSessAt_any _ _ _ _ h0).mono ?_;rintro e w1 ⟨s,sp0,si0,sf0,sd0,x,y,rfl,hdr,S_1,hb1⟩;have hbw1:=hb1;clear h0 hb1;obtain ⟨a0,a1,a2,a3,a4,a5,a6,a7,rfl,rfl,rfl,rfl⟩:=S_1.sl;have HM:=(show Hid (s.t.sm) from hdr.sm);have HDR:=(show Hid (DrS s) from hdr);clear hdr;have hbx2:Below w1.heap.size w1 (w1.alloc (.cells (sc s.t.k s.t.n (.slice a0 s.t.len a1) (.slice a2 s.K.length a3) (.slice a4 s.f.length a5) (.slice a6 s.d.length a7)) 30)):=bAz (Below.refl _ _) _;have AB_2:Bk (w1.alloc (.cells (sc s.t.k s.t.n (.slice a0 s.t.len a1) (.slice a2 s.K.length a3) (.slice a4 s.f.length a5) (.slice a6 s.d.length a7)) 30)) w1.heap.size (sc s.t.k s.t.n (.slice a0 s.t.len a1) (.slice a2 s.K.length a3) (.slice a4 s.f.length a5) (.slice a6 s.d.length a7)) 30:=Bk.new _ _ rfl;have S_2:=S_1.keep hbx2;have hbw2:=bSz hbw1 hbx2;clear S_1 hbw1 hbx2;have hbx3:Below (w1.alloc (.cells (sc s.t.k s.t.n (.slice a0 s.t.len a1) (.slice a2 s.K.length a3) (.slice a4 s.f.length a5) (.slice a6 s.d.length a7)) 30)).heap.size (w1.alloc (.cells (sc s.t.k s.t.n (.slice a0 s.t.len a1) (.slice a2 s.K.length a3) (.slice a4 s.f.length a5) (.slice a6 s.d.length a7)) 30)) ((w1.alloc (.cells (sc s.t.k s.t.n (.slice a0 s.t.len a1) (.slice a2 s.K.length a3) (.slice a4 s.f.length a5) (.slice a6 s.d.length a7)) 30)).alloc (.cells #[.int .i64 x, .int .i64 y] 32)):=bAz (Below.refl _ _) _;have TB_3:Bk ((w1.alloc (.cells (sc s.t.k s.t.n (.slice a0 s.t.len a1) (.slice a2 s.K.length a3) (.slice a4 s.f.length a5) (.slice a6 s.d.length a7)) 30)).alloc (.cells #[.int .i64 x, .int .i64 y] 32)) (w1.heap.size+1) #[.int .i64 x, .int .i64 y] 32:=Bk.new _ _ (by first|rfl|simp)
 have S_3:=S_2.keep hbx3;have AB_3:=AB_2.keep hbx3;have hbw3:=bSz hbw2 hbx3;clear S_2 AB_2 hbw2 hbx3
 rcases hat:atS s x y with _|L
 ·have HAT:=(show Hid (atS s x y=none) from hat);clear hat;obtain ⟨y00_3,y01_3,y02_3,y03_3,y04_3,y05_3⟩:=AB_3.six;obtain ⟨y10_3,y11_3,_,_⟩:=TB_3.two;go_wp2_with fail;clear y00_3 y01_3 y02_3 y03_3 y04_3 y05_3 y10_3 y11_3;refine (specAt_no HAT.out S_3).mono ?_;rintro e w4 ⟨u0,u1,rfl,W_4,hb4⟩;have S_4:=S_3.keep hb4;have AB_4:=AB_3.keep hb4;have TB_4:=TB_3.keep hb4;have hbw4:=bSz hbw3 hb4;clear S_3 AB_3 TB_3 hbw3 hb4;obtain ⟨y00_4,y01_4,y02_4,y03_4,y04_4,y05_4⟩:=AB_4.six;obtain ⟨y10_4,y11_4,_,_⟩:=TB_4.two;go_wp2_with fail;clear y00_4 y01_4 y02_4 y03_4 y04_4 y05_4 y10_4 y11_4;refine (implAt_none ea HAT.out HM.out S_4 (cB hbw4 hg)).mono ?_;rintro e w5 ⟨v0,v1,rfl,X_5,hb5⟩;have S_5:=S_4.keep hb5;have AB_5:=AB_4.keep hb5;have TB_5:=TB_4.keep hb5;have W_5:=W_4.keep hb5;have hbw5:=bSz hbw4 hb5;clear S_4 AB_4 TB_4 W_4 hbw4 hb5;obtain ⟨y00_5,y01_5,y02_5,y03_5,y04_5,y05_5⟩:=AB_5.six;obtain ⟨y10_5,y11_5,_,_⟩:=TB_5.two;go_wp2_with fail;clear y00_5 y01_5 y02_5 y03_5 y04_5 y05_5 y10_5 y11_5;refine (lwItems_eq (selfI _) X_5 W_5).mono ?_;rintro e w6 ⟨rfl,hb6⟩;have S_6:=S_5.keep hb6;have AB_6:=AB_5.keep hb6;have TB_6:=TB_5.keep hb6;have W_6:=W_5.keep hb6;have X_6:=X_5.keep hb6;have hbw6:=bSz hbw5 hb6;clear S_5 AB_5 TB_5 W_5 X_5 hbw5 hb6;obtain ⟨y00_6,y01_6,y02_6,y03_6,y04_6,y05_6⟩:=AB_6.six;obtain ⟨y10_6,y11_6,_,_⟩:=TB_6.two;go_wp2_with fail;go_ret;exact ⟨rfl,hbw6⟩
 ·have HAT:=(show Hid (atS s x y=some L) from hat);clear hat;obtain ⟨y00_3,y01_3,y02_3,y03_3,y04_3,y05_3⟩:=AB_3.six;obtain ⟨y10_3,y11_3,_,_⟩:=TB_3.two;go_wp2_with fail;clear y00_3 y01_3 y02_3 y03_3 y04_3 y05_3 y10_3 y11_3;refine (specAt_yes HAT.out S_3).mono ?_;rintro e w4 ⟨u0,u1,rfl,W_4,hb4⟩;have S_4:=S_3.keep hb4;have AB_4:=AB_3.keep hb4;have TB_4:=TB_3.keep hb4;have hbw4:=bSz hbw3 hb4;clear S_3 AB_3 TB_3 hbw3 hb4;obtain ⟨y00_4,y01_4,y02_4,y03_4,y04_4,y05_4⟩:=AB_4.six;obtain ⟨y10_4,y11_4,_,_⟩:=TB_4.two;go_wp2_with fail;clear y00_4 y01_4 y02_4 y03_4 y04_4 y05_4 y10_4 y11_4;refine (implAt_yes ea HAT.out HM.out S_4 (cB hbw4 hg)).mono ?_;rintro e w5 ⟨v0,v1,rfl,X_5,hb5⟩;have S_5:=S_4.keep hb5;have AB_5:=AB_4.keep hb5;have TB_5:=TB_4.keep hb5;have W_5:=W_4.keep hb5;have hbw5:=bSz hbw4 hb5;clear S_4 AB_4 TB_4 W_4 hbw4 hb5;obtain ⟨y00_5,y01_5,y02_5,y03_5,y04_5,y05_5⟩:=AB_5.six;obtain ⟨y10_5,y11_5,_,_⟩:=TB_5.two;go_wp2_with fail;clear y00_5 y01_5 y02_5 y03_5 y04_5 y05_5 y10_5 y11_5;refine (lwItems_eq (selfI _) X_5 W_5).mono ?_;rintro e w6 ⟨rfl,hb6⟩;have S_6:=S_5.keep hb6;have AB_6:=AB_5.keep hb6;have TB_6:=TB_5.keep hb6;have W_6:=W_5.keep hb6;have X_6:=X_5.keep hb6;have hbw6:=bSz hbw5 hb6;clear S_5 AB_5 TB_5 W_5 X_5 hbw5 hb6;obtain ⟨_,_,hc0,hi0⟩:=atS_open HAT.out;have HCV:=(show Hid (covB s.f x y=false) from hc0);have HIT:=(show Hid (itemsL s.d x y=L) from hi0);clear hc0 hi0;obtain ⟨y00_6,y01_6,y02_6,y03_6,y04_6,y05_6⟩:=AB_6.six;obtain ⟨y10_6,y11_6,_,_⟩:=TB_6.two;go_wp2_with fail;clear y00_6 y01_6 y02_6 y03_6 y04_6 y05_6 y10_6 y11_6;refine (implCov_eq HCV.out S_6.ts).mono ?_;rintro e w7 ⟨rfl,hb7⟩;have S_7:=S_6.keep hb7;have AB_7:=AB_6.keep hb7;have TB_7:=TB_6.keep hb7;have W_7:=W_6.keep hb7;have X_7:=X_6.keep hb7;have hbw7:=bSz hbw6 hb7;clear S_6 AB_6 TB_6 W_6 X_6 hbw6 hb7;obtain ⟨y00_7,y01_7,y02_7,y03_7,y04_7,y05_7⟩:=AB_7.six;obtain ⟨y10_7,y11_7,_,_⟩:=TB_7.two;go_wp2_with fail;clear y00_7 y01_7 y02_7 y03_7 y04_7 y05_7 y10_7 y11_7;refine (implAt_k HIT.out S_7.rs).mono ?_;rintro e w8 ⟨oz,rfl,Z_8,hb8⟩;have S_8:=S_7.keep hb8;have AB_8:=AB_7.keep hb8;have TB_8:=TB_7.keep hb8;have W_8:=W_7.keep hb8;have X_8:=X_7.keep hb8;have hbw8:=bSz hbw7 hb8;clear S_7 AB_7 TB_7 W_7 X_7 hbw7 hb8;obtain ⟨y00_8,y01_8,y02_8,y03_8,y04_8,y05_8⟩:=AB_8.six;obtain ⟨y10_8,y11_8,_,_⟩:=TB_8.two;go_wp2_with fail;clear y00_8 y01_8 y02_8 y03_8 y04_8 y05_8 y10_8 y11_8;refine (lwItems_eq (selfI _) X_8 Z_8).mono ?_;rintro e w9 ⟨rfl,hb9⟩;have S_9:=S_8.keep hb9;have AB_9:=AB_8.keep hb9;have TB_9:=TB_8.keep hb9;have W_9:=W_8.keep hb9;have X_9:=X_8.keep hb9;have Z_9:=Z_8.keep hb9;have hbw9:=bSz hbw8 hb9;clear S_8 AB_8 TB_8 W_8 X_8 Z_8 hbw8 hb9;obtain ⟨y00_9,y01_9,y02_9,y03_9,y04_9,y05_9⟩:=AB_9.six;obtain ⟨y10_9,y11_9,_,_⟩:=TB_9.two;go_wp2_with fail;go_ret;exact ⟨rfl,hbw9⟩
end FnSessNot
set_option maxRecDepth 100000
set_option maxHeartbeats 4000000
open Go.ChangeShapes Go.WideShapes Go.Extern.Stop Go.Stop Go.Extern
namespace RowFnSessNot
theorem own:ownKnob Tryz.prog.godebug=none:=by kernel_rfl
theorem gO:Tryz.prog.globalNamed "loop.example/tideline/impl.errCannotBe" = some 0:=by kernel_rfl
theorem gOType:(Tryz.prog.globals[0]?).map (·.type)=some 163:=by kernel_rfl
theorem cellsE:Tryz.prog.cellsOf 362=1:=by kernel_rfl
theorem cellsS:Tryz.prog.cellsOf 9=1:=by kernel_rfl
theorem star : "*" ++ "errors.errorString" = "*errors.errorString" := by decide
theorem rowE (u:TypeId) (h:Tryz.prog.typeName? 3 u=some "*errors.errorString"):u=327 :=
 typeName_ptr_named (nm := "errors.errorString") (by rw [star];kernel_rfl) (by kernel_rfl) (by decide) u (by rw [star];exact h)
abbrev textB:ByteArray:={ data:=#[99,97,110,110,111,116,32,98,101] }
noncomputable def low:Nat:=(World.holding Tryz.prog default ⟨#[],#[],[]⟩).heap.size
noncomputable def laidWorld (os:Os):World :=
 let w0:=World.holding Tryz.prog os ⟨#[.cells #[.string textB] 362],#[],[]⟩
 { w0 with heap:=w0.heap.modify 0 fun
   | .cells _ t frozen=> .cells #[.iface 327 (.pointer (some ⟨low,0,none⟩))] t frozen
   | o=>o }
theorem laid_met (os:Os) (args:Array Value):laidMetH Tryz.prog Rows.fnSessNotRow.laid ((laidWorld os).forCall (fun _ _=>0) ⟨#[],args,[]⟩).memory :=
 laidMet_of_run (ps:=[.cell 0 0, .cell low 0]) 8 (by kernel_rfl) (by kernel_rfl) (by kernel_rfl)
theorem lifted (os:Os) (started:os.Started) (H:Type) (enc:TypeId×Value->H) :
  ReturnsInHanded {} Tryz.checked os 9 .any (fun w args=>(Rows.fnSessNotSpec.pre enc Tryz.prog Tryz.f9 [] false w args/\laidMetH Tryz.prog Rows.fnSessNotRow.laid w)/\sizedMet enc Tryz.prog Tryz.f9 (OpenSpec.ofChange Rows.fnSessNotSpec) false w args)
   (Rows.fnSessNotSpec.post enc Tryz.prog Tryz.f9 false true false false):=by
 refine returnsInHanded_of_change_and (C:=Tryz.checked) (X:=fun w _=>laidMetH Tryz.prog Rows.fnSessNotRow.laid w) (fun _ _ _ hh h=>h.of_heap hh) own started (by kernel_rfl) Tryz.func9
  (ChangeSpec.witness_at (enc:=enc) (C:=Tryz.checked) (os:=os) (X:=fun w _=>laidMetH Tryz.prog Rows.fnSessNotRow.laid w) false (laidWorld os) #[.slice none 0 0] 8 rfl (by kernel_rfl) (by kernel_rfl) (by kernel_rfl) (by kernel_rfl) (by kernel_rfl) (laid_met os _)) ?_
 intro W base args ds gs before hval0 hW _ _ hL _;have hval:∀ (j:Nat) t v,Tryz.f9.params[j]?=some t->args[j]?=some v->Value.okWide Tryz.prog W .any base t v:=hval0;have hW':=hW;obtain ⟨p,q,hA0,hV0,rfl,hfz,hnd⟩:=hW;have hA:DataW.TrodAll enc Tryz.prog W 0 (fun _=>true) true Tryz.f9.params.toList args.toList ds p:=hA0;have hV:DataW.TrodVars enc Tryz.prog W (fun _=>true) ["loop.example/tideline/impl.errCannotBe"] gs q:=hV0;rw [Tryz.params9] at hA hval;obtain ⟨v0,vs0,d0,ds0,p0,q0,hargs,rfl,rfl,h0,r0⟩:=trodAll_cons hA;obtain ⟨rfl,rfl,rfl⟩:=trodAll_nil r0;obtain rfl:args=#[v0]:=by cases args;simp_all
 obtain ⟨a1,s1,hv1,hc1,hs1,hz1⟩:=laid_sentinel (show laidMet Tryz.prog Rows.fnSessNotRow.laid W from hL) gO gOType Tryz.underlying163 rowE Tryz.underlying327 Tryz.underlying362 rfl rfl Tryz.underlying9 cellsE cellsS;obtain ⟨rfl,rfl⟩:=hV.unique (vars_read1 enc gO gOType Tryz.underlying163 hv1 trivial _);have hg1:W.cell? ⟨0,0,none⟩=some (erV a1):=by simpa using World.var?_cell gO hv1 0
 obtain ⟨b0,len0,cap0,rfl⟩:=okWide_slice Tryz.underlying22 (hval 0 22 v0 rfl rfl);have k0:=h0;have lt0:∀ x∈p0,x.block<W.heap.size:=by obtain ⟨m,hm⟩:=k0;exact DataW.trod_lt m _ _ _ hm
 have w0:Src W (.slice b0 len0 cap0) len0:=by
  obtain ⟨fuel,hf⟩:=h0
  rcases open_ints Tryz.underlying22 Tryz.underlying5 (by kernel_rfl) hf with ⟨hcs,_⟩|⟨x,l,c,zs,hcs,_,hl,hm,hz,_,hcell,hwz⟩
  ·simp [Value.cells] at hcs;obtain ⟨rfl,rfl,rfl⟩:=hcs;exact Src.nil _
  ·simp [Value.cells] at hcs;obtain ⟨rfl,rfl,rfl⟩:=hcs;exact Src.of_row hl hm (by simpa using hz) hcell hwz
 clear hA0 hval0;refine (FnSessNot.walk a1 b0 len0 cap0 W w0 hg1).mono fun e W' ⟨he,bel⟩=>?_;subst he;have hv2:W'.var? Tryz.prog "loop.example/tideline/impl.errCannotBe" = some #[erV a1]:=by
  have h00:W'.heap[0]?=W.heap[0]?:=bel.block 0 (lC hg1);unfold World.var? at hv1 ⊢;rw [gO] at hv1 ⊢;simp only [Option.bind_some,h00] at hv1 ⊢;exact hv1
 exact ⟨_,rfl,_,_,_,[],_,[.cell 0 0],hW',trodAll_mk1 (shut_bool Tryz.underlying4 _),(trodAll_cons_mk (Below.trod pfLaid (by kernel_rfl) (of_decide_eq_true (by kernel_rfl)) k0 bel lt0) trodAll_mk0),vars_read1 enc gO gOType Tryz.underlying163 hv2 trivial _,bel.frame _,fun h=>by cases h⟩
theorem closed:joinedFacts Tryz.prog 9 Tryz.f9 Rows.fnSessNotSpec Rows.fnSessNotRow=true:=by
 unfold joinedFacts;exact (andB (andB (andB (andB (andB (andB (andB (andB (andB (andB (andB (andB (andB (andB (andB (andB (andB (andB (andB (andB (andB (andB (andB (andB (andB (andB (andB (andB (andB (andB (andB (by as_aux_lemma=>kernel_rfl) pfLaid) pfRowed) (by as_aux_lemma=>kernel_rfl)) (by as_aux_lemma=>kernel_rfl)) (by as_aux_lemma=>kernel_rfl)) (by as_aux_lemma=>kernel_rfl)) (by as_aux_lemma=>kernel_rfl)) (by as_aux_lemma=>kernel_rfl)) (by as_aux_lemma=>kernel_rfl)) (by as_aux_lemma=>kernel_rfl)) (by as_aux_lemma=>kernel_rfl)) (by as_aux_lemma=>kernel_rfl)) (by as_aux_lemma=>kernel_rfl)) (by as_aux_lemma=>kernel_rfl)) (by as_aux_lemma=>kernel_rfl)) (by as_aux_lemma=>kernel_rfl)) (by as_aux_lemma=>kernel_rfl)) (by as_aux_lemma=>kernel_rfl)) (by as_aux_lemma=>kernel_rfl)) (by as_aux_lemma=>kernel_rfl)) (by as_aux_lemma=>kernel_rfl)) (by as_aux_lemma=>kernel_rfl)) (by as_aux_lemma=>kernel_rfl)) pfHeard) pfEnter) (pfLiftB rfl)) (pfMakeB rfl)) (by as_aux_lemma=>kernel_rfl)) (by as_aux_lemma=>kernel_rfl)) (by as_aux_lemma=>kernel_rfl)) (by as_aux_lemma=>kernel_rfl))
theorem over:Rows.fnSessNotRow.holds Tryz.pinned (OpenSpec.ofChange Rows.fnSessNotSpec) :=
 OpenClaim.holds_of_wide 9 Tryz.f9 rfl rfl rfl rfl rfl rfl rfl ⟨rfl,rfl,rfl,rfl,rfl⟩ rfl rfl rfl rfl rfl (by kernel_rfl) Tryz.func9 closed
  (of_decide_eq_true (by kernel_rfl)) (by unfold Func.isWrapper;first|(rw [if_pos (by decide +kernel)];kernel_rfl)|(rw [if_neg (by decide +kernel)];exact ⟨rfl,rfl⟩))
  (fun os started H enc _=>lifted os started H enc)
end RowFnSessNot
theorem fnSessNot_card:Rows.FnSessNotCardSaid :=
 Claim7.holds_tied_plain_at .later [] [.sentinel] true Rows.fnSessNotCard.stood.harness true
  RowFnSessNot.over (fun _ h=>by cases h) (by kernel_rfl) (fun _ h=>by cases h) fnSessNot_row_tie rfl ⟨rfl,rfl⟩ (pfMain.trans (by kernel_rfl)) rfl
  (fun f fn hf hfn=>by
   obtain rfl:f=9:=Option.some.inj ((show Tryz.prog.funcNamed "loop.example/tideline/laws.FnSessNot" = some 9 by kernel_rfl).symm.trans hf) |>.symm
   obtain rfl:fn=Tryz.f9:=(Option.some.inj (Tryz.func9.symm.trans hfn)).symm;exact ⟨pfLooks,fun j t ht=>by
    rw [Tryz.params9] at ht;have h3:t=22:=by
     rcases j with _|j
     ·simpa using ht.symm
     ·simp at ht
    subst h3;exact (show Tryz.prog.wantsStandIn 22=false by kernel_rfl)⟩)
  (by kernel_rfl)
end Go.Proofs.YtbdpcngcbnoioaaGreatDoor
