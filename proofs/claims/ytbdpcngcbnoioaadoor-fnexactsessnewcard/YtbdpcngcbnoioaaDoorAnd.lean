import Derived.Test.YtbdpcngcbnoioaaDoorAn7
import Derived.Deep.Slices
import Derived.Deep.Strs
import Derived.WideShapes
namespace Go.Proofs.YtbdpcngcbnoioaaDoor
open Go.ChangeShapes Go.WideShapes Go.ChangeAt Go.RowKit
instance:Inhabited RT:=⟨.nil⟩
theorem wf_i64 {n:Int} (h:(Lit.int .i64 n).wf=true) : -9223372036854775808<=n/\n<=9223372036854775807:=by
 simp [Lit.wf,IntKind.min,IntKind.max,IntKind.signed,IntKind.bits] at h;omega
theorem cellsLP:Tryd.prog.cellsOf 24=3:=by kernel_rfl
theorem cellsIn:Tryd.prog.cellsOf 3=1:=by kernel_rfl
theorem cellsSP:Tryd.prog.cellsOf 22=1:=by kernel_rfl
theorem an_list3 {α:Type} {l:List α} (h:l.length=3):∃ a b c,l=[a,b,c] :=
 match l,h with
 | [a,b,c],_=>⟨a,b,c,rfl⟩
theorem an_add (b off j:Nat):(⟨b,off,none⟩:Addr).add j=⟨b,off+j,none⟩:=by simp [Addr.add]
theorem agg_size {H:Type} (a b c:DataW H):SizeOf.sizeOf c<SizeOf.sizeOf (DataW.agg [a,b,c]):=by simp;omega
theorem slice_size {H:Type} {x:DataW H} {l r:List (DataW H)} (h:x∈l):SizeOf.sizeOf x<SizeOf.sizeOf (DataW.slice l r):=by
 have:=List.sizeOf_lt_of_mem h;simp;omega
theorem read_kids {H:Type} {enc:TypeId×Value->H} {w:World} {sp:Nat->Bool} {held:Bool}:∀ (N:Nat) (d:DataW H) (fuel:Nat) (s:Value) (pl:List MemPlace),SizeOf.sizeOf d<=N->DataW.trod enc Tryd.prog w 0 sp held fuel 22 [s]=some (d,pl)->∃ m f,(∀ i,i<m->(f i).fits)/\∀ k n,RdS 0 w (.mk k n m f) s:=by
 intro N
 induction N with
 | zero=>intro d fuel s pl h _;cases d<;>simp at h
 | succ N ih =>
  intro d fuel s pl hN hf
  rcases Go.Deep.open_slice Tryd.underlying22 hf with ⟨hcs,_⟩|⟨x,len,c,m,n,D,Pl,hcs,_,hl,hm,hmm,hd,hx⟩
  ·obtain rfl:s= .slice none 0 0:=by simpa using hcs
   exact ⟨0,fun _=> .nil,fun i hi=>absurd hi (Nat.not_lt_zero _),fun k n=>⟨_,_,rfl,Nat.le_refl _,by unfold maxLen;omega,fun i hi=>absurd hi (Nat.not_lt_zero _)⟩⟩
  ·obtain rfl:s= .slice (some x) len c:=by simpa using hcs
   have hd1:d= .slice ((List.range len).map D) ((List.range (m-len)).map fun j=>D (len+j)):=(Prod.mk.inj hd).1;have hlm:len<=m:=by rw [hmm];split<;>omega
   have each:∀ i,i<len->∃ t:RT,t.fits/\w.cell? (x.add (i*3))=some (.int .i64 t.k)/\w.cell? (x.add (i*3+1))=some (.int .i64 t.n)/\∃ sx,w.cell? (x.add (i*3+2))=some sx/\RdS 0 w t sx:=by
    intro i hi;obtain ⟨cs',h1,h2⟩:=hx i (by omega);rw [cellsLP] at h1;obtain ⟨_,hlen,hcell⟩:=World.cells?_some h1;obtain ⟨y0,y1,y2,k,e,_,t0,t1,t2⟩:=Go.Deep.trod_struct3 Tryd.underlying24 h2;obtain ⟨v0,v1,v2,rfl⟩:=an_list3 hlen;simp [cellsIn,cellsSP] at t0 t1 t2;obtain ⟨n0,e0,_,b0⟩:=DataW.trod_int Tryd.underlying3 t0;obtain ⟨n1,e1,_,b1⟩:=DataW.trod_int Tryd.underlying3 t1;obtain rfl:v0= .int .i64 n0:=by simpa using e0
    obtain rfl:v1= .int .i64 n1:=by simpa using e1
    have hsz:SizeOf.sizeOf y2.1<=N:=by
     have e3:D i= .agg [y0.1,y1.1,y2.1]:=(Prod.mk.inj e).1;have h3:SizeOf.sizeOf (D i)<SizeOf.sizeOf d:=by rw [hd1];exact slice_size (List.mem_map.2 ⟨i,List.mem_range.2 hi,rfl⟩)
     have h4:SizeOf.sizeOf y2.1<SizeOf.sizeOf (D i):=by rw [e3];exact agg_size _ _ _
     omega
    obtain ⟨m2,f2,hfit,hrd⟩:=ih y2.1 k v2 y2.2 hsz t2;have c0:=hcell 0 (by omega);have c1:=hcell 1 (by omega);have c2:=hcell 2 (by omega);rw [Go.Deep.add_add] at c0 c1 c2;exact ⟨.mk n0 n1 m2 f2,⟨wf_i64 b0,wf_i64 b1,hfit⟩,by simpa [RT.k] using c0,by simpa [RT.n] using c1,v2,by simpa using c2,hrd _ _⟩
   obtain ⟨f,hfx⟩:=Go.Deep.choose_lt each;refine ⟨len,f,fun i hi=>(hfx i hi).1,fun k n=>⟨_,_,rfl,hl,hm,fun i hi=>?_⟩⟩;obtain ⟨b,off,spot⟩:=x;have hspot:spot=none:=by
    have h0:=World.cell?_spot (hfx 0 (by omega)).2.1
    simpa [Addr.add] using h0
   subst hspot;obtain ⟨_,c0,c1,sx,c2,hr⟩:=hfx i hi;rw [an_add] at c0 c1 c2;exact ⟨b,off,sx,rfl,Nat.zero_le _,c0,by rw [Nat.add_assoc];exact c1,by rw [Nat.add_assoc];exact c2,hr⟩
theorem read_plan {H:Type} {enc:TypeId×Value->H} {w:World} {sp:Nat->Bool} {held:Bool} {v:Value} {d:DataW H} {p:List MemPlace} {cs:Array Value} (hv:v= .agg cs)
  (h:DataW.Trod enc Tryd.prog w 0 sp held 24 v d p):∃ (t:RT) (s:Value),v=pl t.k t.n s/\t.fits/\RdS 0 w t s:=by
 subst hv;obtain ⟨fuel,hf⟩:=h;obtain ⟨y0,y1,y2,k,_,hlen,t0,t1,t2⟩:=Go.Deep.trod_struct3 Tryd.underlying24 hf;rw [cellsLP] at hlen;obtain ⟨v0,v1,v2,hc⟩:=an_list3 hlen;obtain rfl:cs=#[v0,v1,v2]:=by
  have:cs.toList=[v0,v1,v2]:=hc;cases cs;simp_all
 simp [cellsIn,cellsSP,Value.cells] at t0 t1 t2;obtain ⟨n0,e0,_,b0⟩:=DataW.trod_int Tryd.underlying3 t0;obtain ⟨n1,e1,_,b1⟩:=DataW.trod_int Tryd.underlying3 t1;obtain rfl:v0= .int .i64 n0:=by simpa using e0
 obtain rfl:v1= .int .i64 n1:=by simpa using e1
 obtain ⟨m2,f2,hfit,hrd⟩:=read_kids _ y2.1 k v2 y2.2 (Nat.le_refl _) t2;exact ⟨.mk n0 n1 m2 f2,v2,rfl,⟨wf_i64 b0,wf_i64 b1,hfit⟩,hrd _ _⟩
end Go.Proofs.YtbdpcngcbnoioaaDoor
