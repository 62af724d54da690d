import Derived.Test.YtbdpcngcbnoioaaGreatDoorGpa
import Derived.Test.YtbdpcngcbnoioaaGreatDoorGs7
namespace Go.Proofs.YtbdpcngcbnoioaaGreatDoor
open Go.RowKit Go.Shelf
abbrev plC (p:Int×Int×Value):List Value:=[.int .i64 p.1, .int .i64 p.2.1,p.2.2]
theorem plC_len (p:Int×Int×Value):(plC p).length=3:=rfl
abbrev OwnPl (w:World) (B:Nat) (v:Value) (l:List (Int×Int×Value)):Prop:=OwnK plC 3 25 w B v l
theorem infoPl:(Tryz.prog.info? 25).map (fun i=>(i.zero,i.size,i.bytes))=some (some (.agg #[.int .i64 0, .int .i64 0, .slice none 0 0]),3,40):=by kernel_rfl
theorem onesPl (k n:Int) (a:Option Addr) (i c:Nat):∀ u∈plC (k,n, .slice a i c),u.oneCell'=true:=by
 intro u hu;simp at hu;rcases hu with rfl|rfl|rfl<;>rfl
section
variable {ops:Array Oper} {rest:List Oper} {o:Oper} {a:Act} {Q:Exit->Act->World->Prop}
end
section
variable {ops:Array Oper} {o:Oper} {a:Act} {Kk:Act->World->Prop} {Q:Exit->Act->World->Prop} {Ee:Prop}
end
theorem OwnPl.at {w:World} {B g m cap:Nat} {l:List (Int×Int×Value)} (h:OwnPl w B (.slice (some ⟨g,0,none⟩) m cap) l) {i:Nat} {k n:Int} {v:Value} (hi:l[i]?=some (k,n,v)) :
  B<=g/\w.cell? ⟨g,i*3,none⟩=some (.int .i64 k)/\w.cell? ⟨g,i*3+1,none⟩=some (.int .i64 n)/\w.cell? ⟨g,i*3+2,none⟩=some v:=by
 rcases ownK_open h plC_len with ⟨h1,_⟩|⟨g',cap',c,e,hB,hb,hsz,hlc,hm,hf⟩
 ·cases h1
 ·cases e;have hil:i<l.length:=(List.getElem?_eq_some_iff.1 hi).1;have f:=hf i (k,n,v) hil hi;exact ⟨hB,hb.cell (by simpa using f 0 (by omega)),hb.cell (by simpa using f 1 (by omega)),hb.cell (by simpa using f 2 (by omega))⟩
end Go.Proofs.YtbdpcngcbnoioaaGreatDoor
