import Derived.Test.YtbdpcngcbnoioaaGreatDoorQa7
import Derived.Test.YtbdpcngcbnoioaaGreatDoorGmr
import Derived.Test.YtbdpcngcbnoioaaGreatDoorDp1
import Derived.Laws.OwnMore
namespace Go.Proofs.YtbdpcngcbnoioaaGreatDoor
open Go.RowKit Go.Shelf
attribute [local go_sem ↓] Go.wp_at_zero Go.wp_at_succ
variable {t:PT} {A N:Nat} {a0:Option Addr} {c0:Nat} {L:Array Bool} {W W':World} {t3 t8 t9 t10 t11 t12 t13:Value}
def newV (t:PT):SS:=⟨t,[[],[]],[(0,0)],[]⟩
theorem ses_new {w:World} {t:PT} {q q' cap cap':Nat} {sp v v':Value} (hk:KdS 0 w t sp) (h0:w.cell? ⟨q,0,none⟩=some v) (h1:w.cell? ⟨q,1,none⟩=some v') (hv:Rs w v []) (hv':Rs w v' []) (hc:2<=cap) (hm:cap<=maxLen) (hc':1<=cap') (hm':cap'<=maxLen) (hb:Bk w q' #[.int .i64 0, .int .i64 0] 32):Ses w sp (.slice (some ⟨q,0,none⟩) 2 cap) (.slice (some ⟨q',0,none⟩) 1 cap') nilV (newV t):=by
 refine ⟨hk,LyR.mk2 h0 (by simpa using h1) hv hv' hc hm,⟨_,cap',rfl,hc',hm',by simp [newV],fun i hi=>?_⟩,OwnR.rs (oN rowC 5 55 _ 0) (by simp [newV])⟩;obtain rfl:i=0:=by simp [newV] at hi;exact hi
 obtain ⟨e0,e1,-,-⟩:=hb.two;exact ⟨q',0,rfl,hb.lt,by simpa [newV,tA] using e0,by simpa [newV,tB] using e1⟩
end Go.Proofs.YtbdpcngcbnoioaaGreatDoor
