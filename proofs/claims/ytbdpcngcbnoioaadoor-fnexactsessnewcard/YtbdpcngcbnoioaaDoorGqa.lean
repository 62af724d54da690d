import Derived.Test.YtbdpcngcbnoioaaDoorGpa
import Derived.Test.YtbdpcngcbnoioaaDoorGs7
import Derived.Test.YtbdpcngcbnoioaaDoorGpm
import Derived.Test.YtbdpcngcbnoioaaDoorGlk
namespace Go.Proofs.YtbdpcngcbnoioaaDoor
open Go.RowKit Go.Shelf
abbrev plC (p:Int×Int×Value):List Value:=[.int .i64 p.1, .int .i64 p.2.1,p.2.2]
theorem plC_len (p:Int×Int×Value):(plC p).length=3:=rfl
abbrev OwnPl (w:World) (B:Nat) (v:Value) (l:List (Int×Int×Value)):Prop:=OwnK plC 3 28 w B v l
theorem infoPl:(Tryd.prog.info? 28).map (fun i=>(i.zero,i.size,i.bytes))=some (some (.agg #[.int .i64 0, .int .i64 0, .slice none 0 0]),3,40):=by kernel_rfl
theorem onesPl (k n:Int) (a:Option Addr) (i c:Nat):∀ u∈plC (k,n, .slice a i c),u.oneCell'=true:=by
 intro u hu;simp at hu;rcases hu with rfl|rfl|rfl<;>rfl
theorem OwnPl.at {w:World} {B g m cap:Nat} {l:List (Int×Int×Value)} (h:OwnPl w B (.slice (some ⟨g,0,none⟩) m cap) l) {i:Nat} {k n:Int} {v:Value} (hi:l[i]?=some (k,n,v)) :
  B<=g/\w.cell? ⟨g,i*3,none⟩=some (.int .i64 k)/\w.cell? ⟨g,i*3+1,none⟩=some (.int .i64 n)/\w.cell? ⟨g,i*3+2,none⟩=some v:=by
 rcases ownK_open h plC_len with ⟨h1,_⟩|⟨g',cap',c,e,hB,hb,hsz,hlc,hm,hf⟩
 ·cases h1
 ·cases e;have hil:i<l.length:=(List.getElem?_eq_some_iff.1 hi).1;have f:=hf i (k,n,v) hil hi;exact ⟨hB,hb.cell (by simpa using f 0 (by omega)),hb.cell (by simpa using f 1 (by omega)),hb.cell (by simpa using f 2 (by omega))⟩
end Go.Proofs.YtbdpcngcbnoioaaDoor
namespace Go.Proofs.YtbdpcngcbnoioaaDoor
structure SS where
 t:PT
 K:List (List Rw)
 f:LI
 d:List Rw
open Go.RowKit Go.Shelf
abbrev sv (k n:Int) (sp si sf sd:Value):Value:= .agg #[.int .i64 k, .int .i64 n,sp,si,sf,sd]
abbrev sc (k n:Int) (sp si sf sd:Value):Array Value:=#[.int .i64 k, .int .i64 n,sp,si,sf,sd]
abbrev nilV:Value:= .slice none 0 0
structure Ses (w:World) (sp si sf sd:Value) (s:SS):Prop where
 kd:KdS 0 w s.t sp
 ly:LyR w si s.K
 ts:Ts w sf s.f
 rs:Rs w sd s.d
theorem Ses.sl {w:World} {sp si sf sd:Value} {s:SS} (h:Ses w sp si sf sd s):∃ a0 c0 a1 c1 a2 c2 a3 c3,sp= .slice a0 s.t.len c0/\si= .slice a1 s.K.length c1/\sf= .slice a2 s.f.length c2/\sd= .slice a3 s.d.length c3:=by
 obtain ⟨a0,c0,e0⟩:=h.kd.sl;obtain ⟨a1,c1,e1⟩:=h.ly.sl;obtain ⟨a2,c2,e2,-⟩:=h.ts;obtain ⟨a3,c3,e3,-⟩:=Rs.open h.rs;exact ⟨a0,c0,a1,c1,a2,c2,a3,c3,e0,e1,e2,e3⟩
theorem Bk.six {w:World} {k:Nat} {x0 x1 x2 x3 x4 x5:Value} {t:TypeId} (h:Bk w k #[x0,x1,x2,x3,x4,x5] t) :
  w.cell? ⟨k,0,none⟩=some x0/\w.cell? ⟨k,1,none⟩=some x1/\w.cell? ⟨k,2,none⟩=some x2/\w.cell? ⟨k,3,none⟩=some x3/\w.cell? ⟨k,4,none⟩=some x4/\w.cell? ⟨k,5,none⟩=some x5:=by
 unfold Bk at h;simp [World.cell?,h]
attribute [local go_sem ↓] Go.wp_at_zero Go.wp_at_succ
end Go.Proofs.YtbdpcngcbnoioaaDoor
