import Derived.Test.YtbdpcngcbnoioaaDoorAn7
namespace Go.Proofs.YtbdpcngcbnoioaaDoor
open Go.RowKit Go.Shelf
theorem specPlanOk_rt {t:RT} {B:Nat} {s:Value} {w:World} (hs:RdS B w t s) :
  Calls Tryd.prog 14 #[pl t.k t.n s] w fun e w'=>e= .returned (.bool (An.pokB t.cut 4))/\Below w.heap.size w w':=by
 have h:=An.specPlanOk_any hs.cut;rw [RT.cut_k,RT.cut_n] at h;exact h
theorem implPlanOk_rt (ea:Addr) {t:RT} {B:Nat} {s:Value} {w:World} (hf:t.fits) (hpw:Pow w) (hs:RdS B w t s) (hg:w.cell? ⟨0,0,none⟩=some (erV ea)) :
  Calls Tryd.prog 17 #[pl t.k t.n s] w fun e w'=>e= .returned (.bool (An.pokB t.cut 4))/\Below w.heap.size w w':=by
 have h:=An.implPlanOk_any ea (RT.cut_sm hf) hpw hs.cut hg;rw [RT.cut_k,RT.cut_n] at h;exact h
end Go.Proofs.YtbdpcngcbnoioaaDoor
