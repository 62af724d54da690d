import Derived.Test.YtbdpcngcbnoioaaGreatDoorIt1
namespace Go.Proofs.YtbdpcngcbnoioaaGreatDoor
open Go.RowKit Go.Shelf
namespace An
theorem pow_keep {w w':World} (h:Pow w) {b:Nat} (hb:Below b w w') (hB:b=w.heap.size):Pow w':=fun i hi=>by
 obtain ⟨z,hz,hc⟩:=h i hi;subst hB;exact ⟨z,hz,cB hb hc⟩
inductive PT where
 | n0 (k n:Int)
 | n1 (k n:Int) (a:PT)
 | n2 (k n:Int) (a b:PT)
 | nm (k n:Int) (m:Nat)
def PT.k:PT->Int
 | .n0 k _=>k
 | .n1 k _ _=>k
 | .n2 k _ _ _=>k
 | .nm k _ _=>k
def PT.n:PT->Int
 | .n0 _ n=>n
 | .n1 _ n _=>n
 | .n2 _ n _ _=>n
 | .nm _ n _=>n
def PT.len:PT->Nat
 | .n0 _ _=>0
 | .n1 _ _ _=>1
 | .n2 _ _ _ _=>2
 | .nm _ _ m=>m+3
def PT.kid:PT->Nat->PT
 | .n1 _ _ a,_=>a
 | .n2 _ _ a _,0=>a
 | .n2 _ _ _ b,_=>b
 | t,_=>t
def PT.sm:PT->Prop
 | .n0 _ n => -9223372036854775808<=n/\n<=9223372036854775807
 | .n1 _ n a=>(-9223372036854775808<=n/\n<=9223372036854775807)/\a.sm
 | .n2 _ n a b=>(-9223372036854775808<=n/\n<=9223372036854775807)/\a.sm/\b.sm
 | .nm _ n _ => -9223372036854775808<=n/\n<=9223372036854775807
theorem PT.sm_n {t:PT} (h:t.sm) : -9223372036854775808<=t.n/\t.n<=9223372036854775807:=by
 cases t
 ·exact h
 ·exact h.1
 ·exact h.1
 ·exact h
theorem PT.sm_kid {t:PT} (h:t.sm) {i:Nat} (hi:i<t.len):(t.kid i).sm:=by
 cases t with
 | n0 k n=>simp [PT.len] at hi
 | n1 k n a=>exact h.2
 | n2 k n a b =>
  cases i with
  | zero=>exact h.2.1
  | succ i=>exact h.2.2
 | nm k n m=>exact h
def KdS (B:Nat) (w:World):PT->Value->Prop
 | .n0 _ _,s=>∃ a c,s= .slice a 0 c
 | .n1 _ _ x,s=>∃ g off c sx,s= .slice (some ⟨g,off,none⟩) 1 c/\B<=g/\w.cell? ⟨g,off,none⟩=some (.int .i64 x.k)/\w.cell? ⟨g,off+1,none⟩=some (.int .i64 x.n)/\w.cell? ⟨g,off+2,none⟩=some sx/\KdS B w x sx
 | .n2 _ _ x y,s=>∃ g off c sx sy,s= .slice (some ⟨g,off,none⟩) 2 c/\B<=g/\w.cell? ⟨g,off,none⟩=some (.int .i64 x.k)/\w.cell? ⟨g,off+1,none⟩=some (.int .i64 x.n)/\w.cell? ⟨g,off+2,none⟩=some sx/\w.cell? ⟨g,off+3,none⟩=some (.int .i64 y.k)/\w.cell? ⟨g,off+4,none⟩=some (.int .i64 y.n)/\w.cell? ⟨g,off+5,none⟩=some sy/\KdS B w x sx/\KdS B w y sy
 | .nm _ _ m,s=>∃ a c,s= .slice a (m+3) c
theorem KdS.sl {B:Nat} {w:World} {t:PT} {s:Value} (h:KdS B w t s):∃ a c,s= .slice a t.len c:=by
 cases t with
 | n0 k n=>obtain ⟨a,c,rfl⟩:=h;exact ⟨_,_,rfl⟩
 | n1 k n x=>obtain ⟨g,off,c,sx,rfl,_⟩:=h;exact ⟨_,_,rfl⟩
 | n2 k n x y=>obtain ⟨g,off,c,sx,sy,rfl,_⟩:=h;exact ⟨_,_,rfl⟩
 | nm k n m=>obtain ⟨a,c,rfl⟩:=h;exact ⟨_,_,rfl⟩
theorem KdS.at {B:Nat} {w:World} {t:PT} {a:Option Addr} {n c:Nat} (h:KdS B w t (.slice a n c)) {i:Nat} (h2:t.len<=2) (hi:i<t.len) :
  ∃ g off sx,a=some ⟨g,off,none⟩/\g<w.heap.size/\w.cell? ⟨g,off+i*3,none⟩=some (.int .i64 (t.kid i).k)/\w.cell? ⟨g,off+i*3+1,none⟩=some (.int .i64 (t.kid i).n)/\w.cell? ⟨g,off+i*3+2,none⟩=some sx/\KdS B w (t.kid i) sx/\(∃ b m d,sx= .slice b m d):=by
 cases t with
 | n0 k n=>simp [PT.len] at hi
 | n1 k n x =>
  obtain ⟨g,off,c,sx,e,_,h1,h2,h3,h4⟩:=h;obtain rfl:i=0:=by simp [PT.len] at hi;exact hi
  cases e;obtain ⟨b,d,e2⟩:=h4.sl;exact ⟨g,off,sx,rfl,lC h1,by simpa [PT.kid] using h1,by simpa [PT.kid] using h2,by simpa using h3,h4,_,_,_,e2⟩
 | n2 k n x y =>
  obtain ⟨g,off,c,sx,sy,e,_,h1,h2,h3,h4,h5,h6,h7,h8⟩:=h;cases e;cases i with
  | zero =>
   obtain ⟨b,d,e2⟩:=h7.sl;exact ⟨g,off,sx,rfl,lC h1,by simpa [PT.kid] using h1,by simpa [PT.kid] using h2,by simpa using h3,h7,_,_,_,e2⟩
  | succ i =>
   obtain rfl:i=0:=by simp [PT.len] at hi;omega
   obtain ⟨b,d,e2⟩:=h8.sl;exact ⟨g,off,sy,rfl,lC h1,by simpa [PT.kid] using h4,by simpa [PT.kid] using h5,by simpa using h6,h8,_,_,_,e2⟩
 | nm k n m=>simp [PT.len] at h2
theorem KdS.keep {B:Nat} {w w':World} (hb:Below w.heap.size w w'):∀ {t:PT} {s:Value},KdS B w t s->KdS B w' t s
 | .n0 _ _,_,h=>h
 | .nm _ _ _,_,h=>h
 | .n1 _ _ _,_,⟨g,off,c,sx,e,hg,h1,h2,h3,h4⟩=>⟨g,off,c,sx,e,hg,cB hb h1,cB hb h2,cB hb h3,KdS.keep hb h4⟩
 | .n2 _ _ _ _,_,⟨g,off,c,sx,sy,e,hg,h1,h2,h3,h4,h5,h6,h7,h8⟩=>⟨g,off,c,sx,sy,e,hg,cB hb h1,cB hb h2,cB hb h3,cB hb h4,cB hb h5,cB hb h6,KdS.keep hb h7,KdS.keep hb h8⟩
def hereB (t:PT):Bool:=inB t.k 1 6&&decide ((t.len:Int)=kidN t.k)&&inB t.n (numLo t.k) (numHi t.k)
theorem kidN_le (k:Int):kidN k<=2:=by
 unfold kidN
 repeat' split
 all_goals omega
theorem here_len {t:PT} (h:hereB t=true):t.len<=2:=by
 simp only [hereB,Bool.and_eq_true,decide_eq_true_eq] at h;have:=kidN_le t.k;omega
theorem here_nm {k n:Int} {m:Nat}:hereB (.nm k n m)=false:=by
 cases h:hereB (.nm k n m)
 ·rfl
 ·have:=here_len h;simp [PT.len] at this
def pokB:PT->Nat->Bool
 | _,0=>false
 | .n0 k n,_+1=>hereB (.n0 k n)
 | .nm _ _ _,_+1=>false
 | .n1 k n a,d+1=>hereB (.n1 k n a)&&pokB a d
 | .n2 k n a b,d+1=>hereB (.n2 k n a b)&&pokB a d&&pokB b d
theorem pok_zero (t:PT):pokB t 0=false:=by cases t<;>rfl
theorem pok_here {t:PT} {d:Nat} (h:hereB t=false):pokB t (d+1)=false:=by
 cases t<;>simp [pokB,h]
theorem pok_kid {t:PT} {d i:Nat} (hi:i<t.len) (h:pokB (t.kid i) d=false):pokB t (d+1)=false:=by
 cases t with
 | n0 k n=>simp [PT.len] at hi
 | n1 k n a=>simp only [PT.kid] at h;simp [pokB,h]
 | n2 k n a b =>
  cases i with
  | zero=>simp only [PT.kid] at h;simp [pokB,h]
  | succ i=>simp only [PT.kid] at h;simp [pokB,h]
 | nm k n m=>rfl
theorem pok_yes {t:PT} {d:Nat} (h:hereB t=true) (hk:∀ i,i<t.len->pokB (t.kid i) d=true):pokB t (d+1)=true:=by
 cases t with
 | n0 k n=>simpa [pokB] using h
 | n1 k n a=>have:=hk 0 (by simp [PT.len]);simp only [PT.kid] at this;simp [pokB,h,this]
 | n2 k n a b =>
  have h0:=hk 0 (by simp [PT.len]);have h1:=hk 1 (by simp [PT.len]);simp only [PT.kid] at h0 h1;simp [pokB,h,h0,h1]
 | nm k n m=>rw [here_nm] at h;cases h
end An
end Go.Proofs.YtbdpcngcbnoioaaGreatDoor
set_option maxRecDepth 100000
set_option maxHeartbeats 4000000
namespace Go.Proofs.YtbdpcngcbnoioaaGreatDoor
open Go.RowKit Go.Shelf
namespace An
def ShapeOf (k:Int) (F:Nat):Prop:=∀ (n:Int) (w:World),(-9223372036854775808<=n/\n<=9223372036854775807)->Pow w->Calls Tryz.prog F #[.int .i64 n] w fun e w'=>(∃ s,e= .returned (shV s (kidN k) (numLo k) (numHi k)))/\Below w.heap.size w w'
theorem shape_in:ShapeOf 1 302:=fun n w hn hp=>by
 have hI:=fun (W:World) (hW:Pow W)=>itoa_any n hn.1 hn.2 W hW;have HI:=(show Hid _ from hI);have HP:=(show Hid (Pow w) from hp);clear hI hn hp;go_enter Tryz.func302,Tryz.ntmps302;go_wp2_with fail;refine Calls.mono (HI.out _ (pow_keep HP.out (bAz (Below.refl _ _) _) rfl)) ?_;rintro e w1 ⟨⟨s,rfl,hs⟩,hb⟩;have hbw:=bSz (bAz (Below.refl w.heap.size w) _) hb;have bB:=(Bk.new (w:=w) #[.string { data:=#[] }, .int .i64 0, .int .i64 0, .int .i64 0] 217 rfl).keep hb;obtain ⟨c0,c1,c2,c3⟩:=bB.four';have f0:=bB.free 0;have f1:=bB.free 1;have f2:=bB.free 2;have f3:=bB.free 3;have y0:∀ a,(w1.setCell ⟨w.heap.size,0,none⟩ a).cell? ⟨w.heap.size,0,none⟩=some a:=fun a=>(show Bk _ _ #[a,_,_,_] _ from bB.set 0 a).four'.1;have y1:∀ a b,((w1.setCell ⟨w.heap.size,0,none⟩ a).setCell ⟨w.heap.size,1,none⟩ b).cell? ⟨w.heap.size,1,none⟩=some b:=fun a b=>(show Bk _ _ #[a,b,_,_] _ from (bB.set 0 a).set 1 b).four'.2.1;have y2:∀ a b c,(((w1.setCell ⟨w.heap.size,0,none⟩ a).setCell ⟨w.heap.size,1,none⟩ b).setCell ⟨w.heap.size,2,none⟩ c).cell? ⟨w.heap.size,2,none⟩=some c:=fun a b c=>(show Bk _ _ #[a,b,c,_] _ from ((bB.set 0 a).set 1 b).set 2 c).four'.2.2.1;have y3:∀ a b c d,((((w1.setCell ⟨w.heap.size,0,none⟩ a).setCell ⟨w.heap.size,1,none⟩ b).setCell ⟨w.heap.size,2,none⟩ c).setCell ⟨w.heap.size,3,none⟩ d).cell? ⟨w.heap.size,3,none⟩=some d:=fun a b c d=>(show Bk _ _ #[a,b,c,d] _ from (((bB.set 0 a).set 1 b).set 2 c).set 3 d).four'.2.2.2;clear hb bB;have hs2:¬ (9223372036854775807<2+s.size):=by omega
 go_wp2_with fail;refine bodyPost_ret (by simp [results,Tryz.results302,go_sem,y0,y1,y2,y3];try rfl) rfl ?_;exact ⟨⟨_,rfl⟩,(((hbw.setCell (by simp) _).setCell (by simp) _).setCell (by simp) _).setCell (by simp) _⟩
theorem shape_each:ShapeOf 2 316:=fun n w hn hp=>by
 have hI:=fun (W:World) (hW:Pow W)=>itoa_any n hn.1 hn.2 W hW;have HI:=(show Hid _ from hI);have HP:=(show Hid (Pow w) from hp);clear hI hn hp;go_enter Tryz.func316,Tryz.ntmps316;go_wp2_with fail;refine Calls.mono (HI.out _ (pow_keep HP.out (bAz (Below.refl _ _) _) rfl)) ?_;rintro e w1 ⟨⟨s,rfl,hs⟩,hb⟩;have hbw:=bSz (bAz (Below.refl w.heap.size w) _) hb;have bB:=(Bk.new (w:=w) #[.string { data:=#[] }, .int .i64 0, .int .i64 0, .int .i64 0] 217 rfl).keep hb;obtain ⟨c0,c1,c2,c3⟩:=bB.four';have f0:=bB.free 0;have f1:=bB.free 1;have f2:=bB.free 2;have f3:=bB.free 3;have y0:∀ a,(w1.setCell ⟨w.heap.size,0,none⟩ a).cell? ⟨w.heap.size,0,none⟩=some a:=fun a=>(show Bk _ _ #[a,_,_,_] _ from bB.set 0 a).four'.1;have y1:∀ a b,((w1.setCell ⟨w.heap.size,0,none⟩ a).setCell ⟨w.heap.size,1,none⟩ b).cell? ⟨w.heap.size,1,none⟩=some b:=fun a b=>(show Bk _ _ #[a,b,_,_] _ from (bB.set 0 a).set 1 b).four'.2.1;have y2:∀ a b c,(((w1.setCell ⟨w.heap.size,0,none⟩ a).setCell ⟨w.heap.size,1,none⟩ b).setCell ⟨w.heap.size,2,none⟩ c).cell? ⟨w.heap.size,2,none⟩=some c:=fun a b c=>(show Bk _ _ #[a,b,c,_] _ from ((bB.set 0 a).set 1 b).set 2 c).four'.2.2.1;have y3:∀ a b c d,((((w1.setCell ⟨w.heap.size,0,none⟩ a).setCell ⟨w.heap.size,1,none⟩ b).setCell ⟨w.heap.size,2,none⟩ c).setCell ⟨w.heap.size,3,none⟩ d).cell? ⟨w.heap.size,3,none⟩=some d:=fun a b c d=>(show Bk _ _ #[a,b,c,d] _ from (((bB.set 0 a).set 1 b).set 2 c).set 3 d).four'.2.2.2;clear hb bB;have hs2:¬ (9223372036854775807<4+s.size):=by omega
 go_wp2_with fail;refine bodyPost_ret (by simp [results,Tryz.results316,go_sem,y0,y1,y2,y3];try rfl) rfl ?_;exact ⟨⟨_,rfl⟩,(((hbw.setCell (by simp) _).setCell (by simp) _).setCell (by simp) _).setCell (by simp) _⟩
theorem shape_sum:ShapeOf 6 320:=fun n w hn hp=>by
 have hI:=fun (W:World) (hW:Pow W)=>itoa_any n hn.1 hn.2 W hW;have HI:=(show Hid _ from hI);have HP:=(show Hid (Pow w) from hp);clear hI hn hp;go_enter Tryz.func320,Tryz.ntmps320;go_wp2_with fail;refine Calls.mono (HI.out _ (pow_keep HP.out (bAz (Below.refl _ _) _) rfl)) ?_;rintro e w1 ⟨⟨s,rfl,hs⟩,hb⟩;have hbw:=bSz (bAz (Below.refl w.heap.size w) _) hb;have bB:=(Bk.new (w:=w) #[.string { data:=#[] }, .int .i64 0, .int .i64 0, .int .i64 0] 217 rfl).keep hb;obtain ⟨c0,c1,c2,c3⟩:=bB.four';have f0:=bB.free 0;have f1:=bB.free 1;have f2:=bB.free 2;have f3:=bB.free 3;have y0:∀ a,(w1.setCell ⟨w.heap.size,0,none⟩ a).cell? ⟨w.heap.size,0,none⟩=some a:=fun a=>(show Bk _ _ #[a,_,_,_] _ from bB.set 0 a).four'.1;have y1:∀ a b,((w1.setCell ⟨w.heap.size,0,none⟩ a).setCell ⟨w.heap.size,1,none⟩ b).cell? ⟨w.heap.size,1,none⟩=some b:=fun a b=>(show Bk _ _ #[a,b,_,_] _ from (bB.set 0 a).set 1 b).four'.2.1;have y2:∀ a b c,(((w1.setCell ⟨w.heap.size,0,none⟩ a).setCell ⟨w.heap.size,1,none⟩ b).setCell ⟨w.heap.size,2,none⟩ c).cell? ⟨w.heap.size,2,none⟩=some c:=fun a b c=>(show Bk _ _ #[a,b,c,_] _ from ((bB.set 0 a).set 1 b).set 2 c).four'.2.2.1;have y3:∀ a b c d,((((w1.setCell ⟨w.heap.size,0,none⟩ a).setCell ⟨w.heap.size,1,none⟩ b).setCell ⟨w.heap.size,2,none⟩ c).setCell ⟨w.heap.size,3,none⟩ d).cell? ⟨w.heap.size,3,none⟩=some d:=fun a b c d=>(show Bk _ _ #[a,b,c,d] _ from (((bB.set 0 a).set 1 b).set 2 c).set 3 d).four'.2.2.2;clear hb bB;have hs2:¬ (9223372036854775807<3+s.size):=by omega
 go_wp2_with fail;refine bodyPost_ret (by simp [results,Tryz.results320,go_sem,y0,y1,y2,y3];try rfl) rfl ?_;exact ⟨⟨_,rfl⟩,(((hbw.setCell (by simp) _).setCell (by simp) _).setCell (by simp) _).setCell (by simp) _⟩
theorem shape_both:ShapeOf 3 317:=fun n w _ _=>by
 go_enter Tryz.func317,Tryz.ntmps317;go_wp2_with fail;refine bodyPost_ret (by simp [results,Tryz.results317,go_sem];try rfl) rfl ?_;exact ⟨⟨_,rfl⟩,bAz (Below.refl _ _) _⟩
theorem shape_less:ShapeOf 4 318:=fun n w _ _=>by
 go_enter Tryz.func318,Tryz.ntmps318;go_wp2_with fail;refine bodyPost_ret (by simp [results,Tryz.results318,go_sem];try rfl) rfl ?_;exact ⟨⟨_,rfl⟩,bAz (Below.refl _ _) _⟩
theorem shape_join:ShapeOf 5 319:=fun n w _ _=>by
 go_enter Tryz.func319,Tryz.ntmps319;go_wp2_with fail;refine bodyPost_ret (by simp [results,Tryz.results319,go_sem];try rfl) rfl ?_;exact ⟨⟨_,rfl⟩,bAz (Below.refl _ _) _⟩
structure KindIs (k:Int) (T F:Nat):Prop where
 shape:ShapeOf k F
 meth:∀ (v:Value) (w:World),(Go.method 474 T v "loop.example/tideline/impl.shape").run Tryz.prog w= .ok (F,v) w
 enters:∀ args w,(callFunc F args).run Tryz.prog w= .ok (.enter F args) w
 kind:∀ (n:Int) (s:Value) (w:World),Calls Tryz.prog 191 #[pl k n s] w fun e w'=>e= .returned (.tuple #[.iface T (.int .i64 n), .nilIface])/\Below w.heap.size w w'
theorem kind_in:KindIs 1 172 302 where
 shape:=shape_in
 meth:=fun v w=>by kernel_rfl
 enters:=enters_of Tryz.func302 (by kernel_rfl) rfl
 kind:=fun n s w=>by
  obtain ⟨x0,x1,x2⟩:=(pl_box w 1 n s).three';go_enter Tryz.func191,Tryz.ntmps191;go_wp2_with fail;refine bodyPost_ret (by simp [results,Tryz.results191,go_sem];try rfl) rfl ?_;exact ⟨rfl,bAz (Below.refl _ _) _⟩
theorem kind_each:KindIs 2 173 316 where
 shape:=shape_each
 meth:=fun v w=>by kernel_rfl
 enters:=enters_of Tryz.func316 (by kernel_rfl) rfl
 kind:=fun n s w=>by
  obtain ⟨x0,x1,x2⟩:=(pl_box w 2 n s).three';go_enter Tryz.func191,Tryz.ntmps191;go_wp2_with fail;refine bodyPost_ret (by simp [results,Tryz.results191,go_sem];try rfl) rfl ?_;exact ⟨rfl,bAz (Below.refl _ _) _⟩
theorem kind_both:KindIs 3 175 317 where
 shape:=shape_both
 meth:=fun v w=>by kernel_rfl
 enters:=enters_of Tryz.func317 (by kernel_rfl) rfl
 kind:=fun n s w=>by
  obtain ⟨x0,x1,x2⟩:=(pl_box w 3 n s).three';go_enter Tryz.func191,Tryz.ntmps191;go_wp2_with fail;refine bodyPost_ret (by simp [results,Tryz.results191,go_sem];try rfl) rfl ?_;exact ⟨rfl,bAz (Below.refl _ _) _⟩
theorem kind_less:KindIs 4 177 318 where
 shape:=shape_less
 meth:=fun v w=>by kernel_rfl
 enters:=enters_of Tryz.func318 (by kernel_rfl) rfl
 kind:=fun n s w=>by
  obtain ⟨x0,x1,x2⟩:=(pl_box w 4 n s).three';go_enter Tryz.func191,Tryz.ntmps191;go_wp2_with fail;refine bodyPost_ret (by simp [results,Tryz.results191,go_sem];try rfl) rfl ?_;exact ⟨rfl,bAz (Below.refl _ _) _⟩
theorem kind_join:KindIs 5 178 319 where
 shape:=shape_join
 meth:=fun v w=>by kernel_rfl
 enters:=enters_of Tryz.func319 (by kernel_rfl) rfl
 kind:=fun n s w=>by
  obtain ⟨x0,x1,x2⟩:=(pl_box w 5 n s).three';go_enter Tryz.func191,Tryz.ntmps191;go_wp2_with fail;refine bodyPost_ret (by simp [results,Tryz.results191,go_sem];try rfl) rfl ?_;exact ⟨rfl,bAz (Below.refl _ _) _⟩
theorem kind_sum:KindIs 6 180 320 where
 shape:=shape_sum
 meth:=fun v w=>by kernel_rfl
 enters:=enters_of Tryz.func320 (by kernel_rfl) rfl
 kind:=fun n s w=>by
  obtain ⟨x0,x1,x2⟩:=(pl_box w 6 n s).three';go_enter Tryz.func191,Tryz.ntmps191;go_wp2_with fail;refine bodyPost_ret (by simp [results,Tryz.results191,go_sem];try rfl) rfl ?_;exact ⟨rfl,bAz (Below.refl _ _) _⟩
end An
end Go.Proofs.YtbdpcngcbnoioaaGreatDoor
