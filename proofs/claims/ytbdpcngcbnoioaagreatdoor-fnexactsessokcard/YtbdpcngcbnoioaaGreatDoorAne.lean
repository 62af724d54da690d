import Derived.Test.YtbdpcngcbnoioaaGreatDoorRows
import Derived.Handed
import Derived.HandedShaped
import Derived.Shelf.Vars
import Derived.Deep.DeepLaidRun
import Derived.ChangeSame
import Derived.ChangeVars
import Derived.JoinedOf
import Derived.RowKit
import Derived.RowKitTokens
import Derived.LaidLaws
import Derived.LaidHandle
import Derived.Stop.Joined
import Derived.Stop.LaidErr
import Derived.Test.YtbdpcngcbnoioaaGreatDoorIt1
namespace Go.Proofs.YtbdpcngcbnoioaaGreatDoor
open Go.ChangeShapes Go.WideShapes Go.RowKit Go.Extern.Stop Go.Stop Go.Extern
theorem change_and_shaped {H:Type} {enc:TypeId×Value->H} {a:Assume} {C:Checked} {os:Os} {f:FuncId} {fn:Func} {s:ChangeSpec} {conds:List PathCond} {apart fresh handsOn again:Bool} {X:World->Array Value->Prop}
  (hX:∀ (w w':World) (args:Array Value),w.heap=w'.heap->X w args->X w' args)
  (own:ownKnob C.prog.godebug=none) (started:os.Started) (noInit:C.prog.inits.idxOf? f=none) (hfn:C.prog.funcs[f]?=some fn)
  (witness:∃ (w:World) (tape:Tape) (i:Input),w.os=os/\(w.forCall tape i).Shaped C.prog/\i.vars=[]/\Input.okWide C.prog (w.forCall tape i) .any w.heap.size f i /\
   ((s.pre enc C.prog fn conds apart (w.forCall tape i).memory i.args/\X (w.forCall tape i).memory i.args)/\sizedMet enc C.prog fn (OpenSpec.ofChange s) apart (w.forCall tape i).memory i.args)/\a.holds C.prog (lone (Frame.enter C.prog f i.args .normal) [] (w.forCall tape i)))
  (contract:∀ (W:World) (base:Nat) (args:Array Value) (ds gs:List (DataW H)) (before:List MemPlace),
   (∀ (j:Nat) t v,fn.params[j]?=some t->args[j]?=some v->Value.okWide C.prog W .any base t v) ->
   DataW.Whole enc C.prog fn.params.toList s.vars apart W args.toList ds gs before->X W args->W.ShapedOpen C.prog ->
   Calls C.prog f args W fun e W'=>∃ v,e= .returned v/\s.post enc C.prog fn apart fresh handsOn again W args v W') :
  ReturnsInHanded a C os f .any (fun w args=>(s.pre enc C.prog fn conds apart w args/\X w args)/\sizedMet enc C.prog fn (OpenSpec.ofChange s) apart w args) (s.post enc C.prog fn apart fresh handsOn again):=by
 refine returnsInHanded_of_calls own started noInit witness ?_;intro w tape i _ hsh _ hok hpre _;obtain ⟨_,_,_,fn',hfn',_,_,_,_,hval⟩:=hok;have e:fn'=fn:=Option.some.inj (hfn'.symm.trans hfn);subst e;obtain ⟨⟨⟨ds,gs,before,hw,_⟩,hx⟩,_⟩:=hpre;have hw':=DataW.Whole.of_heap (w':=w.forCall tape i) (by rfl) hw;refine (contract (w.forCall tape i) w.heap.size i.args ds gs before hval hw' (hX _ _ _ (by rfl) hx) hsh).mono fun e W' ⟨v,he,hp⟩=>?_;subst he;exact ChangeSpec.post_blind hp
end Go.Proofs.YtbdpcngcbnoioaaGreatDoor
namespace Go.Proofs.YtbdpcngcbnoioaaGreatDoor
open Go.ChangeShapes Go.WideShapes Go.RowKit
theorem cells_of_shapedOpen_u64 {P:Program} {w:World} {g:Nat} {t u:TypeId} {N:Nat}
  (h:w.ShapedOpen P) (hg:g<P.globals.size)
  (h0:(((begin P (fun _ _=>0) default).world.heap[g]?).bind Obj.row?).map (fun z=>(z.1.size,z.2))=some (N,t))
  (hb:P.buildable t=true) (hc:P.cellTypes P.depth t=some (List.replicate N u)) (hu:P.underlying u=some (.int .u64)) :
  ∀ i,i<N->∃ z:Nat,z<18446744073709551616/\w.cell? ⟨g,i,none⟩=some (.int .u64 (z:Int)):=by
 intro i hi;obtain ⟨⟨zero,t'⟩,h1,h2⟩:=Option.map_eq_some_iff.1 h0;simp only [Prod.mk.injEq] at h2;obtain ⟨hz,rfl⟩:=h2;obtain ⟨cs,hh,hs,hr⟩:=h.1 g zero t' hg h1;obtain ⟨ts,hts,_,hall⟩:=hr hb;rw [hc] at hts;cases hts;have h1:i<cs.size:=by omega
 obtain ⟨u',hu',hok⟩:=hall i cs[i] (by simp [h1]);have:u'=u:=List.eq_of_mem_replicate (List.mem_of_getElem? hu');subst this;have hcell:w.cell? ⟨g,i,none⟩=some cs[i]:=by simp [World.cell?,hh,h1]
 rw [hcell];unfold Cell.ok at hok;rw [hu] at hok;cases hv:cs[i]<;>rw [hv] at hok<;>simp at hok
 case int k' n =>
  obtain ⟨rfl,hk⟩:=hok;have h5:IntKind.u64.min=0:=by decide
  have h6:IntKind.u64.max=18446744073709551615:=by decide
  unfold IntKind.has at hk;rw [h5,h6] at hk;exact ⟨n.toNat,by omega,by rw [Int.toNat_of_nonneg (by omega)]⟩
theorem pow_open (W:World) (h:W.ShapedOpen Tryz.prog):Pow W :=
 cells_of_shapedOpen_u64 (P:=Tryz.prog) (t:=349) (N:=20) h (of_decide_eq_true (by kernel_rfl)) (by kernel_rfl) (by kernel_rfl) (by kernel_rfl) Tryz.underlying248
end Go.Proofs.YtbdpcngcbnoioaaGreatDoor
