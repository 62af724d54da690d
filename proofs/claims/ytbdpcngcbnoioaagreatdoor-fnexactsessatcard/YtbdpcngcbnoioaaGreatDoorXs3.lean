import Derived.Test.YtbdpcngcbnoioaaGreatDoorAn7
import Derived.Deep.Slices
import Derived.Deep.Strs
import Derived.WideShapes
import Derived.Test.YtbdpcngcbnoioaaGreatDoorZe1
import Derived.Test.YtbdpcngcbnoioaaGreatDoorGqa
namespace Go.Proofs.YtbdpcngcbnoioaaGreatDoor
open Go.ChangeShapes Go.WideShapes Go.ChangeAt Go.RowKit
instance:Inhabited RT:=⟨.nil⟩
theorem wf_i64 {n:Int} (h:(Lit.int .i64 n).wf=true) : -9223372036854775808<=n/\n<=9223372036854775807:=by
 simp [Lit.wf,IntKind.min,IntKind.max,IntKind.signed,IntKind.bits] at h;omega
theorem cellsLP:Tryz.prog.cellsOf 72=3:=by kernel_rfl
theorem cellsIn:Tryz.prog.cellsOf 3=1:=by kernel_rfl
theorem cellsSP:Tryz.prog.cellsOf 70=1:=by kernel_rfl
theorem an_list3 {α:Type} {l:List α} (h:l.length=3):∃ a b c,l=[a,b,c] :=
 match l,h with
 | [a,b,c],_=>⟨a,b,c,rfl⟩
theorem an_add (b off j:Nat):(⟨b,off,none⟩:Addr).add j=⟨b,off+j,none⟩:=by simp [Addr.add]
theorem agg_size {H:Type} (a b c:DataW H):SizeOf.sizeOf c<SizeOf.sizeOf (DataW.agg [a,b,c]):=by simp;omega
theorem slice_size {H:Type} {x:DataW H} {l r:List (DataW H)} (h:x∈l):SizeOf.sizeOf x<SizeOf.sizeOf (DataW.slice l r):=by
 have:=List.sizeOf_lt_of_mem h;simp;omega
theorem read_kids {H:Type} {enc:TypeId×Value->H} {w:World} {sp:Nat->Bool} {held:Bool}:∀ (N:Nat) (d:DataW H) (fuel:Nat) (s:Value) (pl:List MemPlace),SizeOf.sizeOf d<=N->DataW.trod enc Tryz.prog w 0 sp held fuel 70 [s]=some (d,pl)->∃ m f,(∀ i,i<m->(f i).fits)/\∀ k n,RdS 0 w (.mk k n m f) s:=by
 intro N
 induction N with
 | zero=>intro d fuel s pl h _;cases d<;>simp at h
 | succ N ih =>
  intro d fuel s pl hN hf
  rcases Go.Deep.open_slice Tryz.underlying70 hf with ⟨hcs,_⟩|⟨x,len,c,m,n,D,Pl,hcs,_,hl,hm,hmm,hd,hx⟩
  ·obtain rfl:s= .slice none 0 0:=by simpa using hcs
   exact ⟨0,fun _=> .nil,fun i hi=>absurd hi (Nat.not_lt_zero _),fun k n=>⟨_,_,rfl,Nat.le_refl _,by unfold maxLen;omega,fun i hi=>absurd hi (Nat.not_lt_zero _)⟩⟩
  ·obtain rfl:s= .slice (some x) len c:=by simpa using hcs
   have hd1:d= .slice ((List.range len).map D) ((List.range (m-len)).map fun j=>D (len+j)):=(Prod.mk.inj hd).1;have hlm:len<=m:=by rw [hmm];split<;>omega
   have each:∀ i,i<len->∃ t:RT,t.fits/\w.cell? (x.add (i*3))=some (.int .i64 t.k)/\w.cell? (x.add (i*3+1))=some (.int .i64 t.n)/\∃ sx,w.cell? (x.add (i*3+2))=some sx/\RdS 0 w t sx:=by
    intro i hi;obtain ⟨cs',h1,h2⟩:=hx i (by omega);rw [cellsLP] at h1;obtain ⟨_,hlen,hcell⟩:=World.cells?_some h1;obtain ⟨y0,y1,y2,k,e,_,t0,t1,t2⟩:=Go.Deep.trod_struct3 Tryz.underlying72 h2;obtain ⟨v0,v1,v2,rfl⟩:=an_list3 hlen;simp [cellsIn,cellsSP] at t0 t1 t2;obtain ⟨n0,e0,_,b0⟩:=DataW.trod_int Tryz.underlying3 t0;obtain ⟨n1,e1,_,b1⟩:=DataW.trod_int Tryz.underlying3 t1;obtain rfl:v0= .int .i64 n0:=by simpa using e0
    obtain rfl:v1= .int .i64 n1:=by simpa using e1
    have hsz:SizeOf.sizeOf y2.1<=N:=by
     have e3:D i= .agg [y0.1,y1.1,y2.1]:=(Prod.mk.inj e).1;have h3:SizeOf.sizeOf (D i)<SizeOf.sizeOf d:=by rw [hd1];exact slice_size (List.mem_map.2 ⟨i,List.mem_range.2 hi,rfl⟩)
     have h4:SizeOf.sizeOf y2.1<SizeOf.sizeOf (D i):=by rw [e3];exact agg_size _ _ _
     omega
    obtain ⟨m2,f2,hfit,hrd⟩:=ih y2.1 k v2 y2.2 hsz t2;have c0:=hcell 0 (by omega);have c1:=hcell 1 (by omega);have c2:=hcell 2 (by omega);rw [Go.Deep.add_add] at c0 c1 c2;exact ⟨.mk n0 n1 m2 f2,⟨wf_i64 b0,wf_i64 b1,hfit⟩,by simpa [RT.k] using c0,by simpa [RT.n] using c1,v2,by simpa using c2,hrd _ _⟩
   obtain ⟨f,hfx⟩:=Go.Deep.choose_lt each;refine ⟨len,f,fun i hi=>(hfx i hi).1,fun k n=>⟨_,_,rfl,hl,hm,fun i hi=>?_⟩⟩;obtain ⟨b,off,spot⟩:=x;have hspot:spot=none:=by
    have h0:=World.cell?_spot (hfx 0 (by omega)).2.1
    simpa [Addr.add] using h0
   subst hspot;obtain ⟨_,c0,c1,sx,c2,hr⟩:=hfx i hi;rw [an_add] at c0 c1 c2;exact ⟨b,off,sx,rfl,Nat.zero_le _,c0,by rw [Nat.add_assoc];exact c1,by rw [Nat.add_assoc];exact c2,hr⟩
end Go.Proofs.YtbdpcngcbnoioaaGreatDoor
namespace Go.Proofs.YtbdpcngcbnoioaaGreatDoor
open Go.ChangeShapes Go.WideShapes Go.ChangeAt Go.RowKit
theorem an_list6 {α:Type} {l:List α} (h:l.length=6):∃ a b c d e f,l=[a,b,c,d,e,f] :=
 match l,h with
 | [a,b,c,d,e,f],_=>⟨a,b,c,d,e,f,rfl⟩
theorem cellsLS:Tryz.prog.cellsOf 77=6:=by kernel_rfl
theorem cellsSR2:Tryz.prog.cellsOf 73=1:=by kernel_rfl
theorem cellsST2:Tryz.prog.cellsOf 74=1:=by kernel_rfl
theorem cellsSL2:Tryz.prog.cellsOf 75=1:=by kernel_rfl
theorem read_planc {H:Type} {enc:TypeId×Value->H} {w:World} {sp:Nat->Bool} {held:Bool} {fuel:Nat} {v0 v1 v2:Value} {x:DataW H×List MemPlace}
  (hf:DataW.trod enc Tryz.prog w 0 sp held fuel 72 [v0,v1,v2]=some x):∃ t:RT,v0= .int .i64 t.k/\v1= .int .i64 t.n/\t.fits/\RdS 0 w t v2:=by
 obtain ⟨y0,y1,y2,k,_,hlen,t0,t1,t2⟩:=Go.Deep.trod_struct3 Tryz.underlying72 hf;simp [cellsIn,cellsSP] at t0 t1 t2;obtain ⟨n0,e0,_,b0⟩:=DataW.trod_int Tryz.underlying3 t0;obtain ⟨n1,e1,_,b1⟩:=DataW.trod_int Tryz.underlying3 t1;obtain rfl:v0= .int .i64 n0:=by simpa using e0
 obtain rfl:v1= .int .i64 n1:=by simpa using e1
 obtain ⟨m2,f2,hfit,hrd⟩:=read_kids _ y2.1 k v2 y2.2 (Nat.le_refl _) t2;exact ⟨.mk n0 n1 m2 f2,rfl,rfl,⟨wf_i64 b0,wf_i64 b1,hfit⟩,hrd _ _⟩
theorem ts_cell {H:Type} {enc:TypeId×Value->H} {w:World} {base:Nat} {sp:Nat->Bool} {held:Bool} {fuel:Nat} {v:Value} {x:DataW H×List MemPlace}
  (h:DataW.trod enc Tryz.prog w base sp held fuel 74 [v]=some x):∃ a m c,v= .slice a m c/\TsArg w a m c:=by
 rcases Go.Deep.open_slice Tryz.underlying74 h with ⟨e,_⟩|⟨x',l',c',_,_,_,_,e,_⟩
 ·simp at e;subst e;exact ⟨none,0,0,rfl,TsArg.of_trod ⟨fuel,h⟩⟩
 ·simp at e;subst e;exact ⟨some x',l',c',rfl,TsArg.of_trod ⟨fuel,h⟩⟩
theorem rs_cell {H:Type} {enc:TypeId×Value->H} {w:World} {base:Nat} {sp:Nat->Bool} {held:Bool} {fuel:Nat} {v:Value} {x:DataW H×List MemPlace}
  (h:DataW.trod enc Tryz.prog w base sp held fuel 75 [v]=some x):∃ a m c,v= .slice a m c/\RsArg w a m c:=by
 rcases Go.Deep.open_slice Tryz.underlying75 h with ⟨e,_⟩|⟨x',l',c',_,_,_,_,e,_⟩
 ·simp at e;subst e;exact ⟨none,0,0,rfl,RsArg.of_trod ⟨fuel,h⟩⟩
 ·simp at e;subst e;exact ⟨some x',l',c',rfl,RsArg.of_trod ⟨fuel,h⟩⟩
theorem read_sess {H:Type} {enc:TypeId×Value->H} {w:World} {sp:Nat->Bool} {held:Bool} {v:Value} {d:DataW H} {p:List MemPlace} {cs:Array Value} (hv:v= .agg cs)
  (h:DataW.Trod enc Tryz.prog w 0 sp held 77 v d p):∃ (t:RT) (s0:Value) (a1:Option Addr) (len cap:Nat) (ns:Nat->Nat) (a2:Option Addr) (m cb:Nat) (a3:Option Addr) (q cd:Nat),v=sv t.k t.n s0 (.slice a1 len cap) (.slice a2 m cb) (.slice a3 q cd)/\t.fits/\RdS 0 w t s0/\LsArg w a1 len cap ns/\TsArg w a2 m cb/\RsArg w a3 q cd:=by
 subst hv;obtain ⟨fuel,hf⟩:=h;obtain ⟨xs,k,_,_,hlen,hxs,hx⟩:=DataW.trod_struct Tryz.underlying77 hf;rw [cellsLS] at hlen;obtain ⟨v0,v1,v2,v3,v4,v5,hc⟩:=an_list6 hlen;obtain rfl:cs=#[v0,v1,v2,v3,v4,v5]:=by
  have:cs.toList=[v0,v1,v2,v3,v4,v5]:=hc;cases cs;simp_all
 match xs,hxs with
 | [y0,y1,y2,y3],_ =>
  have t0:=hx 0 _ rfl;have t1:=hx 1 _ rfl;have t2:=hx 2 _ rfl;have t3:=hx 3 _ rfl;simp [cellsLP,cellsSR2,cellsST2,cellsSL2,Value.cells] at t0 t1 t2 t3;obtain ⟨t,rfl,rfl,hfit,hrd⟩:=read_planc t0;obtain ⟨a1,len,cap,ns,rfl,hl⟩:=LsArg.of_cells t1;obtain ⟨a2,m,cb,rfl,ht⟩:=ts_cell t2;obtain ⟨a3,q,cd,rfl,hr⟩:=rs_cell t3;exact ⟨t,v2,a1,len,cap,ns,a2,m,cb,a3,q,cd,rfl,hfit,hrd,hl,ht,hr⟩
end Go.Proofs.YtbdpcngcbnoioaaGreatDoor
