import Derived.Test.YtbdpcngcbnoioaaGreatDoorIt1
namespace Go.Proofs.YtbdpcngcbnoioaaGreatDoor
open Go.RowKit Go.Shelf
namespace An
theorem pow_keep {w w':World} (h:Pow w) {b:Nat} (hb:Below b w w') (hB:b=w.heap.size):Pow w':=fun i hi=>by
 obtain ⟨z,hz,hc⟩:=h i hi;subst hB;exact ⟨z,hz,cB hb hc⟩
inductive PT where
 | n0 (k n:Int)
 | n1 (k n:Int) (a:PT)
 | n2 (k n:Int) (a b:PT)
 | nm (k n:Int) (m:Nat)
def PT.k:PT->Int
 | .n0 k _=>k
 | .n1 k _ _=>k
 | .n2 k _ _ _=>k
 | .nm k _ _=>k
def PT.n:PT->Int
 | .n0 _ n=>n
 | .n1 _ n _=>n
 | .n2 _ n _ _=>n
 | .nm _ n _=>n
def PT.len:PT->Nat
 | .n0 _ _=>0
 | .n1 _ _ _=>1
 | .n2 _ _ _ _=>2
 | .nm _ _ m=>m+3
def PT.kid:PT->Nat->PT
 | .n1 _ _ a,_=>a
 | .n2 _ _ a _,0=>a
 | .n2 _ _ _ b,_=>b
 | t,_=>t
def PT.sm:PT->Prop
 | .n0 _ n => -9223372036854775808<=n/\n<=9223372036854775807
 | .n1 _ n a=>(-9223372036854775808<=n/\n<=9223372036854775807)/\a.sm
 | .n2 _ n a b=>(-9223372036854775808<=n/\n<=9223372036854775807)/\a.sm/\b.sm
 | .nm _ n _ => -9223372036854775808<=n/\n<=9223372036854775807
theorem PT.sm_n {t:PT} (h:t.sm) : -9223372036854775808<=t.n/\t.n<=9223372036854775807:=by
 cases t
 ·exact h
 ·exact h.1
 ·exact h.1
 ·exact h
theorem PT.sm_kid {t:PT} (h:t.sm) {i:Nat} (hi:i<t.len):(t.kid i).sm:=by
 cases t with
 | n0 k n=>simp [PT.len] at hi
 | n1 k n a=>exact h.2
 | n2 k n a b =>
  cases i with
  | zero=>exact h.2.1
  | succ i=>exact h.2.2
 | nm k n m=>exact h
def KdS (B:Nat) (w:World):PT->Value->Prop
 | .n0 _ _,s=>∃ a c,s= .slice a 0 c
 | .n1 _ _ x,s=>∃ g off c sx,s= .slice (some ⟨g,off,none⟩) 1 c/\B<=g/\w.cell? ⟨g,off,none⟩=some (.int .i64 x.k)/\w.cell? ⟨g,off+1,none⟩=some (.int .i64 x.n)/\w.cell? ⟨g,off+2,none⟩=some sx/\KdS B w x sx
 | .n2 _ _ x y,s=>∃ g off c sx sy,s= .slice (some ⟨g,off,none⟩) 2 c/\B<=g/\w.cell? ⟨g,off,none⟩=some (.int .i64 x.k)/\w.cell? ⟨g,off+1,none⟩=some (.int .i64 x.n)/\w.cell? ⟨g,off+2,none⟩=some sx/\w.cell? ⟨g,off+3,none⟩=some (.int .i64 y.k)/\w.cell? ⟨g,off+4,none⟩=some (.int .i64 y.n)/\w.cell? ⟨g,off+5,none⟩=some sy/\KdS B w x sx/\KdS B w y sy
 | .nm _ _ m,s=>∃ a c,s= .slice a (m+3) c
theorem KdS.sl {B:Nat} {w:World} {t:PT} {s:Value} (h:KdS B w t s):∃ a c,s= .slice a t.len c:=by
 cases t with
 | n0 k n=>obtain ⟨a,c,rfl⟩:=h;exact ⟨_,_,rfl⟩
 | n1 k n x=>obtain ⟨g,off,c,sx,rfl,_⟩:=h;exact ⟨_,_,rfl⟩
 | n2 k n x y=>obtain ⟨g,off,c,sx,sy,rfl,_⟩:=h;exact ⟨_,_,rfl⟩
 | nm k n m=>obtain ⟨a,c,rfl⟩:=h;exact ⟨_,_,rfl⟩
theorem KdS.at {B:Nat} {w:World} {t:PT} {a:Option Addr} {n c:Nat} (h:KdS B w t (.slice a n c)) {i:Nat} (h2:t.len<=2) (hi:i<t.len) :
  ∃ g off sx,a=some ⟨g,off,none⟩/\g<w.heap.size/\w.cell? ⟨g,off+i*3,none⟩=some (.int .i64 (t.kid i).k)/\w.cell? ⟨g,off+i*3+1,none⟩=some (.int .i64 (t.kid i).n)/\w.cell? ⟨g,off+i*3+2,none⟩=some sx/\KdS B w (t.kid i) sx/\(∃ b m d,sx= .slice b m d):=by
 cases t with
 | n0 k n=>simp [PT.len] at hi
 | n1 k n x =>
  obtain ⟨g,off,c,sx,e,_,h1,h2,h3,h4⟩:=h;obtain rfl:i=0:=by simp [PT.len] at hi;exact hi
  cases e;obtain ⟨b,d,e2⟩:=h4.sl;exact ⟨g,off,sx,rfl,lC h1,by simpa [PT.kid] using h1,by simpa [PT.kid] using h2,by simpa using h3,h4,_,_,_,e2⟩
 | n2 k n x y =>
  obtain ⟨g,off,c,sx,sy,e,_,h1,h2,h3,h4,h5,h6,h7,h8⟩:=h;cases e;cases i with
  | zero =>
   obtain ⟨b,d,e2⟩:=h7.sl;exact ⟨g,off,sx,rfl,lC h1,by simpa [PT.kid] using h1,by simpa [PT.kid] using h2,by simpa using h3,h7,_,_,_,e2⟩
  | succ i =>
   obtain rfl:i=0:=by simp [PT.len] at hi;omega
   obtain ⟨b,d,e2⟩:=h8.sl;exact ⟨g,off,sy,rfl,lC h1,by simpa [PT.kid] using h4,by simpa [PT.kid] using h5,by simpa using h6,h8,_,_,_,e2⟩
 | nm k n m=>simp [PT.len] at h2
theorem KdS.keep {B:Nat} {w w':World} (hb:Below w.heap.size w w'):∀ {t:PT} {s:Value},KdS B w t s->KdS B w' t s
 | .n0 _ _,_,h=>h
 | .nm _ _ _,_,h=>h
 | .n1 _ _ _,_,⟨g,off,c,sx,e,hg,h1,h2,h3,h4⟩=>⟨g,off,c,sx,e,hg,cB hb h1,cB hb h2,cB hb h3,KdS.keep hb h4⟩
 | .n2 _ _ _ _,_,⟨g,off,c,sx,sy,e,hg,h1,h2,h3,h4,h5,h6,h7,h8⟩=>⟨g,off,c,sx,sy,e,hg,cB hb h1,cB hb h2,cB hb h3,cB hb h4,cB hb h5,cB hb h6,KdS.keep hb h7,KdS.keep hb h8⟩
def hereB (t:PT):Bool:=inB t.k 1 6&&decide ((t.len:Int)=kidN t.k)&&inB t.n (numLo t.k) (numHi t.k)
theorem kidN_le (k:Int):kidN k<=2:=by
 unfold kidN
 repeat' split
 all_goals omega
theorem here_len {t:PT} (h:hereB t=true):t.len<=2:=by
 simp only [hereB,Bool.and_eq_true,decide_eq_true_eq] at h;have:=kidN_le t.k;omega
theorem here_nm {k n:Int} {m:Nat}:hereB (.nm k n m)=false:=by
 cases h:hereB (.nm k n m)
 ·rfl
 ·have:=here_len h;simp [PT.len] at this
def pokB:PT->Nat->Bool
 | _,0=>false
 | .n0 k n,_+1=>hereB (.n0 k n)
 | .nm _ _ _,_+1=>false
 | .n1 k n a,d+1=>hereB (.n1 k n a)&&pokB a d
 | .n2 k n a b,d+1=>hereB (.n2 k n a b)&&pokB a d&&pokB b d
theorem pok_zero (t:PT):pokB t 0=false:=by cases t<;>rfl
theorem pok_here {t:PT} {d:Nat} (h:hereB t=false):pokB t (d+1)=false:=by
 cases t<;>simp [pokB,h]
theorem pok_kid {t:PT} {d i:Nat} (hi:i<t.len) (h:pokB (t.kid i) d=false):pokB t (d+1)=false:=by
 cases t with
 | n0 k n=>simp [PT.len] at hi
 | n1 k n a=>simp only [PT.kid] at h;simp [pokB,h]
 | n2 k n a b =>
  cases i with
  | zero=>simp only [PT.kid] at h;simp [pokB,h]
  | succ i=>simp only [PT.kid] at h;simp [pokB,h]
 | nm k n m=>rfl
theorem pok_yes {t:PT} {d:Nat} (h:hereB t=true) (hk:∀ i,i<t.len->pokB (t.kid i) d=true):pokB t (d+1)=true:=by
 cases t with
 | n0 k n=>simpa [pokB] using h
 | n1 k n a=>have:=hk 0 (by simp [PT.len]);simp only [PT.kid] at this;simp [pokB,h,this]
 | n2 k n a b =>
  have h0:=hk 0 (by simp [PT.len]);have h1:=hk 1 (by simp [PT.len]);simp only [PT.kid] at h0 h1;simp [pokB,h,h0,h1]
 | nm k n m=>rw [here_nm] at h;cases h
end An
end Go.Proofs.YtbdpcngcbnoioaaGreatDoor
set_option maxRecDepth 100000
set_option maxHeartbeats 4000000
namespace Go.Proofs.YtbdpcngcbnoioaaGreatDoor
open Go.RowKit Go.Shelf
namespace An
def ShapeOf (k:Int) (F:Nat):Prop:=∀ (n:Int) (w:World),(-9223372036854775808<=n/\n<=9223372036854775807)->Pow w->Calls Tryz.prog F #[.int .i64 n] w fun e w'=>(∃ s,e= .returned (shV s (kidN k) (numLo k) (numHi k)))/\Below w.heap.size w w'
theorem shape_in:ShapeOf 1 302:=fun n w hn hp=>by
 have hI:=fun (W:World) (hW:Pow W)=>itoa_any n hn.1 hn.2 W hW;have HI:=(show Hid _ from hI);have HP:=(show Hid (Pow w) from hp);clear hI hn hp;go_enter Tryz.func302,Tryz.ntmps302;go_wp2_with fail;refine Calls.mono (HI.out _ (pow_keep HP.out (bAz (Below.refl _ _) _) rfl)) ?_;rintro e w1 ⟨⟨s,rfl,hs⟩,hb⟩;have hbw:=bSz (bAz (Below.refl w.heap.size w) _) hb;have bB:=(Bk.new (w:=w) #[.string { data:=#[] }, .int .i64 0, .int .i64 0, .int .i64 0] 217 rfl).keep hb;obtain ⟨c0,c1,c2,c3⟩:=bB.four';have f0:=bB.free 0;have f1:=bB.free 1;have f2:=bB.free 2;have f3:=bB.free 3;have y0:∀ a,(w1.setCell ⟨w.heap.size,0,none⟩ a).cell? ⟨w.heap.size,0,none⟩=some a:=fun a=>(show Bk _ _ #[a,_,_,_] _ from bB.set 0 a).four'.1;have y1:∀ a b,((w1.setCell ⟨w.heap.size,0,none⟩ a).setCell ⟨w.heap.size,1,none⟩ b).cell? ⟨w.heap.size,1,none⟩=some b:=fun a b=>(show Bk _ _ #[a,b,_,_] _ from (bB.set 0 a).set 1 b).four'.2.1;have y2:∀ a b c,(((w1.setCell ⟨w.heap.size,0,none⟩ a).setCell ⟨w.heap.size,1,none⟩ b).setCell ⟨w.heap.size,2,none⟩ c).cell? ⟨w.heap.size,2,none⟩=some c:=fun a b c=>(show Bk _ _ #[a,b,c,_] _ from ((bB.set 0 a).set 1 b).set 2 c).four'.2.2.1;have y3:∀ a b c d,((((w1.setCell ⟨w.heap.size,0,none⟩ a).setCell ⟨w.heap.size,1,none⟩ b).setCell ⟨w.heap.size,2,none⟩ c).setCell ⟨w.heap.size,3,none⟩ d).cell? ⟨w.heap.size,3,none⟩=some d:=fun a b c d=>(show Bk _ _ #[a,b,c,d] _ from (((bB.set 0 a).set 1 b).set 2 c).set 3 d).four'.2.2.2;clear hb bB;have hs2:¬ (9223372036854775807<2+s.size):=by omega
 go_wp2_with fail;refine bodyPost_ret (by simp [results,Tryz.results302,go_sem,y0,y1,y2,y3];try rfl) rfl ?_;exact ⟨⟨_,rfl⟩,(((hbw.setCell (by simp) _).setCell (by simp) _).setCell (by simp) _).setCell (by simp) _⟩
theorem shape_each:ShapeOf 2 316:=fun n w hn hp=>by
 have hI:=fun (W:World) (hW:Pow W)=>itoa_any n hn.1 hn.2 W hW;have HI:=(show Hid _ from hI);have HP:=(show Hid (Pow w) from hp);clear hI hn hp;go_enter Tryz.func316,Tryz.ntmps316;go_wp2_with fail;refine Calls.mono (HI.out _ (pow_keep HP.out (bAz (Below.refl _ _) _) rfl)) ?_;rintro e w1 ⟨⟨s,rfl,hs⟩,hb⟩;have hbw:=bSz (bAz (Below.refl w.heap.size w) _) hb;have bB:=(Bk.new (w:=w) #[.string { data:=#[] }, .int .i64 0, .int .i64 0, .int .i64 0] 217 rfl).keep hb;obtain ⟨c0,c1,c2,c3⟩:=bB.four';have f0:=bB.free 0;have f1:=bB.free 1;have f2:=bB.free 2;have f3:=bB.free 3;have y0:∀ a,(w1.setCell ⟨w.heap.size,0,none⟩ a).cell? ⟨w.heap.size,0,none⟩=some a:=fun a=>(show Bk _ _ #[a,_,_,_] _ from bB.set 0 a).four'.1;have y1:∀ a b,((w1.setCell ⟨w.heap.size,0,none⟩ a).setCell ⟨w.heap.size,1,none⟩ b).cell? ⟨w.heap.size,1,none⟩=some b:=fun a b=>(show Bk _ _ #[a,b,_,_] _ from (bB.set 0 a).set 1 b).four'.2.1;have y2:∀ a b c,(((w1.setCell ⟨w.heap.size,0,none⟩ a).setCell ⟨w.heap.size,1,none⟩ b).setCell ⟨w.heap.size,2,none⟩ c).cell? ⟨w.heap.size,2,none⟩=some c:=fun a b c=>(show Bk _ _ #[a,b,c,_] _ from ((bB.set 0 a).set 1 b).set 2 c).four'.2.2.1;have y3:∀ a b c d,((((w1.setCell ⟨w.heap.size,0,none⟩ a).setCell ⟨w.heap.size,1,none⟩ b).setCell ⟨w.heap.size,2,none⟩ c).setCell ⟨w.heap.size,3,none⟩ d).cell? ⟨w.heap.size,3,none⟩=some d:=fun a b c d=>(show Bk _ _ #[a,b,c,d] _ from (((bB.set 0 a).set 1 b).set 2 c).set 3 d).four'.2.2.2;clear hb bB;have hs2:¬ (9223372036854775807<4+s.size):=by omega
 go_wp2_with fail;refine bodyPost_ret (by simp [results,Tryz.results316,go_sem,y0,y1,y2,y3];try rfl) rfl ?_;exact ⟨⟨_,rfl⟩,(((hbw.setCell (by simp) _).setCell (by simp) _).setCell (by simp) _).setCell (by simp) _⟩
theorem shape_sum:ShapeOf 6 320:=fun n w hn hp=>by
 have hI:=fun (W:World) (hW:Pow W)=>itoa_any n hn.1 hn.2 W hW;have HI:=(show Hid _ from hI);have HP:=(show Hid (Pow w) from hp);clear hI hn hp;go_enter Tryz.func320,Tryz.ntmps320;go_wp2_with fail;refine Calls.mono (HI.out _ (pow_keep HP.out (bAz (Below.refl _ _) _) rfl)) ?_;rintro e w1 ⟨⟨s,rfl,hs⟩,hb⟩;have hbw:=bSz (bAz (Below.refl w.heap.size w) _) hb;have bB:=(Bk.new (w:=w) #[.string { data:=#[] }, .int .i64 0, .int .i64 0, .int .i64 0] 217 rfl).keep hb;obtain ⟨c0,c1,c2,c3⟩:=bB.four';have f0:=bB.free 0;have f1:=bB.free 1;have f2:=bB.free 2;have f3:=bB.free 3;have y0:∀ a,(w1.setCell ⟨w.heap.size,0,none⟩ a).cell? ⟨w.heap.size,0,none⟩=some a:=fun a=>(show Bk _ _ #[a,_,_,_] _ from bB.set 0 a).four'.1;have y1:∀ a b,((w1.setCell ⟨w.heap.size,0,none⟩ a).setCell ⟨w.heap.size,1,none⟩ b).cell? ⟨w.heap.size,1,none⟩=some b:=fun a b=>(show Bk _ _ #[a,b,_,_] _ from (bB.set 0 a).set 1 b).four'.2.1;have y2:∀ a b c,(((w1.setCell ⟨w.heap.size,0,none⟩ a).setCell ⟨w.heap.size,1,none⟩ b).setCell ⟨w.heap.size,2,none⟩ c).cell? ⟨w.heap.size,2,none⟩=some c:=fun a b c=>(show Bk _ _ #[a,b,c,_] _ from ((bB.set 0 a).set 1 b).set 2 c).four'.2.2.1;have y3:∀ a b c d,((((w1.setCell ⟨w.heap.size,0,none⟩ a).setCell ⟨w.heap.size,1,none⟩ b).setCell ⟨w.heap.size,2,none⟩ c).setCell ⟨w.heap.size,3,none⟩ d).cell? ⟨w.heap.size,3,none⟩=some d:=fun a b c d=>(show Bk _ _ #[a,b,c,d] _ from (((bB.set 0 a).set 1 b).set 2 c).set 3 d).four'.2.2.2;clear hb bB;have hs2:¬ (9223372036854775807<3+s.size):=by omega
 go_wp2_with fail;refine bodyPost_ret (by simp [results,Tryz.results320,go_sem,y0,y1,y2,y3];try rfl) rfl ?_;exact ⟨⟨_,rfl⟩,(((hbw.setCell (by simp) _).setCell (by simp) _).setCell (by simp) _).setCell (by simp) _⟩
theorem shape_both:ShapeOf 3 317:=fun n w _ _=>by
 go_enter Tryz.func317,Tryz.ntmps317;go_wp2_with fail;refine bodyPost_ret (by simp [results,Tryz.results317,go_sem];try rfl) rfl ?_;exact ⟨⟨_,rfl⟩,bAz (Below.refl _ _) _⟩
theorem shape_less:ShapeOf 4 318:=fun n w _ _=>by
 go_enter Tryz.func318,Tryz.ntmps318;go_wp2_with fail;refine bodyPost_ret (by simp [results,Tryz.results318,go_sem];try rfl) rfl ?_;exact ⟨⟨_,rfl⟩,bAz (Below.refl _ _) _⟩
theorem shape_join:ShapeOf 5 319:=fun n w _ _=>by
 go_enter Tryz.func319,Tryz.ntmps319;go_wp2_with fail;refine bodyPost_ret (by simp [results,Tryz.results319,go_sem];try rfl) rfl ?_;exact ⟨⟨_,rfl⟩,bAz (Below.refl _ _) _⟩
structure KindIs (k:Int) (T F:Nat):Prop where
 shape:ShapeOf k F
 meth:∀ (v:Value) (w:World),(Go.method 474 T v "loop.example/tideline/impl.shape").run Tryz.prog w= .ok (F,v) w
 enters:∀ args w,(callFunc F args).run Tryz.prog w= .ok (.enter F args) w
 kind:∀ (n:Int) (s:Value) (w:World),Calls Tryz.prog 191 #[pl k n s] w fun e w'=>e= .returned (.tuple #[.iface T (.int .i64 n), .nilIface])/\Below w.heap.size w w'
theorem kind_in:KindIs 1 172 302 where
 shape:=shape_in
 meth:=fun v w=>by kernel_rfl
 enters:=enters_of Tryz.func302 (by kernel_rfl) rfl
 kind:=fun n s w=>by
  obtain ⟨x0,x1,x2⟩:=(pl_box w 1 n s).three';go_enter Tryz.func191,Tryz.ntmps191;go_wp2_with fail;refine bodyPost_ret (by simp [results,Tryz.results191,go_sem];try rfl) rfl ?_;exact ⟨rfl,bAz (Below.refl _ _) _⟩
theorem kind_each:KindIs 2 173 316 where
 shape:=shape_each
 meth:=fun v w=>by kernel_rfl
 enters:=enters_of Tryz.func316 (by kernel_rfl) rfl
 kind:=fun n s w=>by
  obtain ⟨x0,x1,x2⟩:=(pl_box w 2 n s).three';go_enter Tryz.func191,Tryz.ntmps191;go_wp2_with fail;refine bodyPost_ret (by simp [results,Tryz.results191,go_sem];try rfl) rfl ?_;exact ⟨rfl,bAz (Below.refl _ _) _⟩
theorem kind_both:KindIs 3 175 317 where
 shape:=shape_both
 meth:=fun v w=>by kernel_rfl
 enters:=enters_of Tryz.func317 (by kernel_rfl) rfl
 kind:=fun n s w=>by
  obtain ⟨x0,x1,x2⟩:=(pl_box w 3 n s).three';go_enter Tryz.func191,Tryz.ntmps191;go_wp2_with fail;refine bodyPost_ret (by simp [results,Tryz.results191,go_sem];try rfl) rfl ?_;exact ⟨rfl,bAz (Below.refl _ _) _⟩
theorem kind_less:KindIs 4 177 318 where
 shape:=shape_less
 meth:=fun v w=>by kernel_rfl
 enters:=enters_of Tryz.func318 (by kernel_rfl) rfl
 kind:=fun n s w=>by
  obtain ⟨x0,x1,x2⟩:=(pl_box w 4 n s).three';go_enter Tryz.func191,Tryz.ntmps191;go_wp2_with fail;refine bodyPost_ret (by simp [results,Tryz.results191,go_sem];try rfl) rfl ?_;exact ⟨rfl,bAz (Below.refl _ _) _⟩
theorem kind_join:KindIs 5 178 319 where
 shape:=shape_join
 meth:=fun v w=>by kernel_rfl
 enters:=enters_of Tryz.func319 (by kernel_rfl) rfl
 kind:=fun n s w=>by
  obtain ⟨x0,x1,x2⟩:=(pl_box w 5 n s).three';go_enter Tryz.func191,Tryz.ntmps191;go_wp2_with fail;refine bodyPost_ret (by simp [results,Tryz.results191,go_sem];try rfl) rfl ?_;exact ⟨rfl,bAz (Below.refl _ _) _⟩
theorem kind_sum:KindIs 6 180 320 where
 shape:=shape_sum
 meth:=fun v w=>by kernel_rfl
 enters:=enters_of Tryz.func320 (by kernel_rfl) rfl
 kind:=fun n s w=>by
  obtain ⟨x0,x1,x2⟩:=(pl_box w 6 n s).three';go_enter Tryz.func191,Tryz.ntmps191;go_wp2_with fail;refine bodyPost_ret (by simp [results,Tryz.results191,go_sem];try rfl) rfl ?_;exact ⟨rfl,bAz (Below.refl _ _) _⟩
end An
end Go.Proofs.YtbdpcngcbnoioaaGreatDoor
set_option maxRecDepth 100000
set_option maxHeartbeats 16000000
namespace Go.Proofs.YtbdpcngcbnoioaaGreatDoor
open Go.RowKit Go.Shelf
namespace An
theorem okPlan_bad (ea:Addr) {T F:Nat} {t:PT} {B:Nat} {s:Value} {w:World} {deep:Int} (H:KindIs t.k T F) (hn : -9223372036854775808<=t.n/\t.n<=9223372036854775807) (hpw:Pow w) (hs:KdS B w t s) (hg:w.cell? ⟨0,0,none⟩=some (erV ea))
  (hbad:4<deep\/(¬ 4<deep/\¬ (t.len:Int)=kidN t.k)\/(¬ 4<deep/\(t.len:Int)=kidN t.k/\t.n<numLo t.k)\/(¬ 4<deep/\(t.len:Int)=kidN t.k/\¬ t.n<numLo t.k/\numHi t.k<t.n)) :
  Calls Tryz.prog 138 #[pl t.k t.n s, .int .i64 deep] w fun e w'=>e= .returned (.tuple #[okZ,erV ea])/\Below w.heap.size w w':=by
 obtain ⟨a,c,rfl⟩:=hs.sl;have HPW:=(show Hid (Pow w) from hpw);clear hpw;have HS:=(show Hid (ShapeOf t.k F) from H.shape);have HK:=(show Hid _ from H.kind);have hme:=H.meth;have hen:=H.enters;have bP:Bk ((w.alloc (.cells #[.int .i64 t.k, .int .i64 t.n, .slice a t.len c] 25)).alloc (.cells #[.nilIface, .slice none 0 0] 161)) w.heap.size #[.int .i64 t.k, .int .i64 t.n, .slice a t.len c] 25:=(Bk.new _ _ rfl).alloc _;have bR:Bk ((w.alloc (.cells #[.int .i64 t.k, .int .i64 t.n, .slice a t.len c] 25)).alloc (.cells #[.nilIface, .slice none 0 0] 161)) (w.heap.size+1) #[.nilIface, .slice none 0 0] 161:=Bk.new _ _ (by simp);have hb0:Below w.heap.size w ((w.alloc (.cells #[.int .i64 t.k, .int .i64 t.n, .slice a t.len c] 25)).alloc (.cells #[.nilIface, .slice none 0 0] 161)):=bAz (bAz (Below.refl _ _) _) _;clear hs H;obtain ⟨x0,x1,x2⟩:=bP.three';go_enter Tryz.func138,Tryz.ntmps138;go_wp2_with fail;generalize ((w.alloc (.cells #[.int .i64 t.k, .int .i64 t.n, .slice a t.len c] 25)).alloc (.cells #[.nilIface, .slice none 0 0] 161))=W0 at *;refine (HK.out t.n _ _).mono ?_;rintro e w1 ⟨rfl,hb1⟩;have bP1:=bP.keep hb1;have bR1:=bR.keep hb1;have hbw1:=bSz hb0 hb1;clear x0 x1 x2 bP bR hb0 hb1;go_wp2_with fail;refine (HS.out t.n _ hn (pow_keep HPW.out hbw1 rfl)).mono ?_;rintro e w2 ⟨⟨sx,rfl⟩,hb2⟩;have bS:Bk (w2.alloc (.cells #[.string sx, .int .i64 (kidN t.k), .int .i64 (numLo t.k), .int .i64 (numHi t.k)] 217)) w2.heap.size #[.string sx, .int .i64 (kidN t.k), .int .i64 (numLo t.k), .int .i64 (numHi t.k)] 217:=Bk.new _ _ rfl;have hbS:Below w2.heap.size w2 (w2.alloc (.cells #[.string sx, .int .i64 (kidN t.k), .int .i64 (numLo t.k), .int .i64 (numHi t.k)] 217)):=bAz (Below.refl _ _) _;have bP2:=(bP1.keep hb2).keep hbS;have bR2:=(bR1.keep hb2).keep hbS;have hbw2:=bSz (bSz hbw1 hb2) hbS;have hg2:=cB hbw2 hg;clear hb2 hbS bP1 bR1 hbw1 hme hen
 go_upto_region 5 with fail
 generalize (w2.alloc (.cells #[.string sx, .int .i64 (kidN t.k), .int .i64 (numLo t.k), .int .i64 (numHi t.k)] 217))=W3 at *;generalize w2.heap.size=sb at *;obtain ⟨x0,x1,x2⟩:=bP2.three';obtain ⟨s0,s1,s2,s3⟩:=bS.four';obtain ⟨r0,r1,f0,f1⟩:=bR2.two;have bo:=(bR2.set01 .nilIface (.slice none 0 0)).drew;have hbo:Below w.heap.size w ((W3.setCell ⟨w.heap.size+1,0,none⟩ .nilIface).setCell ⟨w.heap.size+1,1,none⟩ (.slice none 0 0)).drew:=((hbw2.setCell (by simp) _).setCell (by simp) _).drew;obtain ⟨y0,y1,_,_⟩:=bo.two;have hy0:W3.drew.cell? ⟨0,0,none⟩=some (erV ea):=hg2;clear bP2 bS bR2 bo HS HK
 rcases hbad with h1|⟨h1,h2⟩|⟨h1,h2,h3⟩|⟨h1,h2,h3,h4⟩
 all_goals
  go_wp2_with fail
  go_region
  go_wp2_with fail;refine bodyPost_ret (v:= .tuple #[okZ,erV ea]) (by simp [results,Tryz.results138,go_sem,y0,y1];try rfl) rfl ?_;exact ⟨rfl,hbo⟩
end An
end Go.Proofs.YtbdpcngcbnoioaaGreatDoor
namespace Go.Proofs.YtbdpcngcbnoioaaGreatDoor
open Go.RowKit Go.Shelf
namespace An
theorem kind_of {k:Int} (h:inB k 1 6=true):∃ F,KindIs k (kT k) F:=by
 have h2:1<=k/\k<=6:=by simpa [inB] using h
 have:k=1\/k=2\/k=3\/k=4\/k=5\/k=6:=by omega
 rcases this with rfl|rfl|rfl|rfl|rfl|rfl
 ·exact ⟨_,kind_in⟩
 ·exact ⟨_,kind_each⟩
 ·exact ⟨_,kind_both⟩
 ·exact ⟨_,kind_less⟩
 ·exact ⟨_,kind_join⟩
 ·exact ⟨_,kind_sum⟩
abbrev kiV (t:PT):Value:= .iface (kT t.k) (.int .i64 t.n)
def OkS (p:Nat->Prop) (w:World):PT->Value->Prop
 | .n0 _ _,s=>∃ a c,s= .slice a 0 c
 | .n1 _ _ x,s=>∃ g c sx,s= .slice (some ⟨g,0,none⟩) 1 c/\p g/\w.cell? ⟨g,0,none⟩=some (kiV x)/\w.cell? ⟨g,1,none⟩=some sx/\OkS p w x sx
 | .n2 _ _ x y,s=>∃ g c sx sy,s= .slice (some ⟨g,0,none⟩) 2 c/\p g/\w.cell? ⟨g,0,none⟩=some (kiV x)/\w.cell? ⟨g,1,none⟩=some sx/\w.cell? ⟨g,2,none⟩=some (kiV y)/\w.cell? ⟨g,3,none⟩=some sy/\OkS p w x sx/\OkS p w y sy
 | .nm _ _ m,s=>∃ a c,s= .slice a (m+3) c
theorem OkS.sl {p:Nat->Prop} {w:World} {t:PT} {s:Value} (h:OkS p w t s):∃ a c,s= .slice a t.len c:=by
 cases t with
 | n0 k n=>obtain ⟨a,c,rfl⟩:=h;exact ⟨_,_,rfl⟩
 | n1 k n x=>obtain ⟨g,c,sx,rfl,_⟩:=h;exact ⟨_,_,rfl⟩
 | n2 k n x y=>obtain ⟨g,c,sx,sy,rfl,_⟩:=h;exact ⟨_,_,rfl⟩
 | nm k n m=>obtain ⟨a,c,rfl⟩:=h;exact ⟨_,_,rfl⟩
theorem OkS.move {p q:Nat->Prop} {w w':World} (H:∀ g,p g->g<w.heap.size->q g/\w'.heap[g]?=w.heap[g]?):∀ {t:PT} {s:Value},OkS p w t s->OkS q w' t s
 | .n0 _ _,_,h=>h
 | .nm _ _ _,_,h=>h
 | .n1 _ _ _,_,⟨g,c,sx,e,hp,h1,h2,h3⟩=>⟨g,c,sx,e,(H g hp (lC h1)).1,cell_at (H g hp (lC h1)).2 h1,cell_at (H g hp (lC h1)).2 h2,OkS.move H h3⟩
 | .n2 _ _ _ _,_,⟨g,c,sx,sy,e,hp,h1,h2,h3,h4,h5,h6⟩=>⟨g,c,sx,sy,e,(H g hp (lC h1)).1,cell_at (H g hp (lC h1)).2 h1,cell_at (H g hp (lC h1)).2 h2,cell_at (H g hp (lC h1)).2 h3,cell_at (H g hp (lC h1)).2 h4,OkS.move H h5,OkS.move H h6⟩
theorem okS_of {p q:Nat->Prop} {w:World} {B:Nat} {t:PT} {sl:Value} {ps:List (Value×Value)} (ho:w.ownsRow B 161 2 sl t.len (psC ps)) (hl:ps.length=t.len)
  (hk:∀ j a s,ps[j]?=some (a,s)->a=kiV (t.kid j)/\OkS p w (t.kid j) s) (hq:∀ g,B<=g->q g) (hpq:∀ g,p g->q g):OkS q w t sl:=by
 have hm:∀ {x:PT} {s:Value},OkS p w x s->OkS q w x s:=OkS.move fun g h _=>⟨hpq g h,rfl⟩;have hh:=ho;obtain ⟨_,⟨rfl,h0⟩|⟨g,cap,cur,rfl,hg,_⟩⟩:=ho
 ·cases t with
  | n0 k n=>exact ⟨_,_,rfl⟩
  | n1 k n x=>simp [PT.len] at h0
  | n2 k n x y=>simp [PT.len] at h0
  | nm k n m=>simp [PT.len] at h0
 ·have ha:=fun i (hi:i<t.len*2)=>hh.cellAt i hi;cases t with
  | n0 k n=>exact ⟨_,_,rfl⟩
  | n1 k n x =>
   obtain ⟨⟨a,s⟩,rfl⟩:∃ z,ps=[z]:=by
    match ps,hl with
    | [z],_=>exact ⟨z,rfl⟩
   obtain ⟨e,ok⟩:=hk 0 a s rfl;refine ⟨g,cap,s,rfl,hq g hg,?_,?_,hm ok⟩
   ·rw [ha 0 (by simp [PT.len])];simp [e,PT.kid]
   ·rw [ha 1 (by simp [PT.len])];simp
  | n2 k n x y =>
   obtain ⟨⟨a,s⟩,⟨b,s'⟩,rfl⟩:∃ z z',ps=[z,z']:=by
    match ps,hl with
    | [z,z'],_=>exact ⟨z,z',rfl⟩
   obtain ⟨e,ok⟩:=hk 0 a s rfl;obtain ⟨e',ok'⟩:=hk 1 b s' rfl;refine ⟨g,cap,s,s',rfl,hq g hg,?_,?_,?_,?_,hm ok,hm ok'⟩
   ·rw [ha 0 (by simp [PT.len])];simp [e,PT.kid]
   ·rw [ha 1 (by simp [PT.len])];simp
   ·rw [ha 2 (by simp [PT.len])];simp [e',PT.kid]
   ·rw [ha 3 (by simp [PT.len])];simp
  | nm k n m=>exact ⟨_,_,rfl⟩
end An
end Go.Proofs.YtbdpcngcbnoioaaGreatDoor
set_option maxRecDepth 100000
set_option maxHeartbeats 16000000
namespace Go.Proofs.YtbdpcngcbnoioaaGreatDoor
open Go.RowKit Go.Shelf
namespace An
def OkPost (ea:Addr) (t:PT) (d:Nat) (w:World) (e:Ending) (w':World):Prop :=
 ((pokB t d=true/\∃ a n c,e= .returned (.tuple #[.agg #[kiV t, .slice a n c], .nilIface])/\OkS (fun g=>w.heap.size<=g) w' t (.slice a n c))\/(pokB t d=false/\e= .returned (.tuple #[okZ,erV ea])))/\Below w.heap.size w w'
structure OkI (ea:Addr) (t:PT) (d:Nat) (w:World) (b9 k:Nat) (s:Value) (wr:World):Prop where
 le:k<=t.len
 ps:∃ sl ps,ps.length=k/\Bk wr b9 #[kiV t,sl] 161/\wr.ownsRow (b9+1) 161 2 sl k (psC ps)/\(∀ j a x,ps[j]?=some (a,x)->a=kiV (t.kid j)/\OkS (fun g=>b9<g/\sl.ownBlock≠some g) wr (t.kid j) x)
 pok:∀ j,j<k->pokB (t.kid j) d=true
 box:Bk wr (w.heap.size+1) #[.nilIface, .slice none 0 0] 161
 nine:w.heap.size+1<b9
 bel:Below w.heap.size w wr
theorem okI_step {ea:Addr} {t:PT} {d:Nat} {w:World} {b9 k:Nat} {s:Value} {wr W8 w9:World} {sl:Value} {ps:List (Value×Value)} {b:Option Addr} {m c g cap:Nat} (hlt:k<t.len) (hpl:ps.length=k) (b9k:Bk wr b9 #[kiV t,sl] 161) (hown:wr.ownsRow (b9+1) 161 2 sl k (psC ps))
  (hps:∀ j a x,ps[j]?=some (a,x)->a=kiV (t.kid j)/\OkS (fun g=>b9<g/\sl.ownBlock≠some g) wr (t.kid j) x) (hpok:∀ j,j<k->pokB (t.kid j) d=true) (box:Bk wr (w.heap.size+1) #[.nilIface, .slice none 0 0] 161) (h9:w.heap.size+1<b9) (hb:Below w.heap.size w wr)
  (hb8:Below wr.heap.size wr W8) (hk:OkS (fun g=>wr.heap.size<=g) W8 (t.kid k) (.slice b m c)) (hp:pokB (t.kid k) d=true) (hn:w9.ownsRow (b9+1) 161 2 (.slice (some ⟨g,0,none⟩) (k+1) cap) (k+1) (psC (ps++[(kiV (t.kid k), .slice b m c)]))) (hg:W8.grownBy w9 sl.ownBlock) (hor:sl.ownBlock=some g\/g=W8.heap.size) :
  OkI ea t d w b9 (k+1) s (w9.setCell ⟨b9,1,none⟩ (.slice (some ⟨g,0,none⟩) (k+1) cap)):=by
 have hlo:=hown.lt;have h9l:=b9k.lt;have hs8:=hb8.size;have hne:sl.ownBlock≠some b9:=fun e=>by have:=(hlo _ e).1;omega
 have hset:∀ x,x≠b9->(w9.setCell ⟨b9,1,none⟩ (.slice (some ⟨g,0,none⟩) (k+1) cap)).heap[x]?=w9.heap[x]?:=fun x hx=>Below.heap_setCell _ _ _ _ (by show _≠_;first|exact hx|exact fun e=>hx e.symm)
 refine ⟨by omega,⟨_,ps++[(kiV (t.kid k), .slice b m c)],by simp [hpl],(pl_grew (b9k.keep hb8) hg hne).set 1 _,pl_own_move hn fun x hx _=>hset x (by omega),?_⟩,?_,?_,h9,?_⟩
 ·intro j a x hj
  rcases Nat.lt_or_ge j k with h|h
  ·rw [List.getElem?_append_left (by omega)] at hj;obtain ⟨e,ok⟩:=hps j a x hj;refine ⟨e,ok.move fun q hq hql=>?_⟩;have x1:(Value.slice (some ⟨g,0,none⟩) (k+1) cap).ownBlock≠some q:=by
    intro e2;have e3:g=q:=by simpa [Value.ownBlock] using e2
    subst e3
    rcases hor with h1|h1
    ·exact hq.2 h1
    ·omega
   refine ⟨⟨hq.1,x1⟩,?_⟩;rw [hset q (by omega),hg.block q (by omega) (fun e=>hq.2 e.symm)];exact hb8.block q hql
  ·have hj2:j=k:=by
    have:=(List.getElem?_eq_some_iff.1 hj).1;simp at this;omega
   subst hj2;rw [List.getElem?_append_right (by omega),hpl,Nat.sub_self] at hj;simp only [List.getElem?_cons_zero,Option.some.injEq,Prod.mk.injEq] at hj;obtain ⟨rfl,rfl⟩:=hj;refine ⟨rfl,hk.move fun q hq hql=>?_⟩;have x1:(Value.slice (some ⟨g,0,none⟩) (j+1) cap).ownBlock≠some q:=by
    intro e2;have e3:g=q:=by simpa [Value.ownBlock] using e2
    subst e3
    rcases hor with h1|h1
    ·have:=(hlo _ h1).2;omega
    ·omega
   refine ⟨⟨by omega,x1⟩,?_⟩;rw [hset q (by omega)];exact hg.block q hql (fun e=>by have:=(hlo _ e.symm).2;omega)
 ·intro j hj
  rcases Nat.lt_or_ge j k with h|h
  ·exact hpok j h
  ·obtain rfl:j=k:=by omega
   exact hp
 ·have b2:=pl_grew (box.keep hb8) hg (fun e=>by have:=(hlo _ e).1;omega);unfold Bk;rw [hset _ (by omega)];exact b2
 ·exact ((bSz hb hb8).grown hg (by have:=hb.size;omega) (fun x e=>by have:=(hlo _ e).1;omega)).setCell (by show _<=b9;omega) _
theorem okPlan_good (ea:Addr) {F:Nat} {t:PT} {B d:Nat} {s:Value} {w:World} {deep:Int} (H:KindIs t.k (kT t.k) F) (hn : -9223372036854775808<=t.n/\t.n<=9223372036854775807) (hpw:Pow w) (hs:KdS B w t s) (hg:w.cell? ⟨0,0,none⟩=some (erV ea))
  (hh:hereB t=true) (h0:1<=deep) (h4:deep<=4)
  (hrec:∀ i,i<t.len->∀ (W:World) (s':Value),KdS B W (t.kid i) s'->W.cell? ⟨0,0,none⟩=some (erV ea)->Pow W->Calls Tryz.prog 138 #[pl (t.kid i).k (t.kid i).n s', .int .i64 (deep+1)] W (OkPost ea (t.kid i) d W)) :
  Calls Tryz.prog 138 #[pl t.k t.n s, .int .i64 deep] w (OkPost ea t (d+1) w):=by
 have HR:=(show Hid _ from hrec);have HH:=(show Hid _ from hh);have HSL:=(show Hid (KdS B w t s) from hs);have HPW:=(show Hid (Pow w) from hpw);have HLE:=(show Hid (t.len<=2) from here_len hh);clear hpw;have hh2:((t.len:Int)=kidN t.k)/\¬ t.n<numLo t.k/\¬ numHi t.k<t.n:=by
  simp only [hereB,inB,Bool.and_eq_true,decide_eq_true_eq] at hh;exact ⟨hh.1.2,by omega,by omega⟩
 obtain ⟨h1,h2,h3⟩:=hh2;have h5:¬ 4<deep:=by omega
 obtain ⟨a,c,rfl⟩:=hs.sl;have HS:=(show Hid (ShapeOf t.k F) from H.shape);have HK:=(show Hid _ from H.kind);have hme:=H.meth;have hen:=H.enters;have bP:Bk ((w.alloc (.cells #[.int .i64 t.k, .int .i64 t.n, .slice a t.len c] 25)).alloc (.cells #[.nilIface, .slice none 0 0] 161)) w.heap.size #[.int .i64 t.k, .int .i64 t.n, .slice a t.len c] 25:=(Bk.new _ _ rfl).alloc _;have bR:Bk ((w.alloc (.cells #[.int .i64 t.k, .int .i64 t.n, .slice a t.len c] 25)).alloc (.cells #[.nilIface, .slice none 0 0] 161)) (w.heap.size+1) #[.nilIface, .slice none 0 0] 161:=Bk.new _ _ (by simp);have hb0:Below w.heap.size w ((w.alloc (.cells #[.int .i64 t.k, .int .i64 t.n, .slice a t.len c] 25)).alloc (.cells #[.nilIface, .slice none 0 0] 161)):=bAz (bAz (Below.refl _ _) _) _;clear hs H hrec hh;obtain ⟨x0,x1,x2⟩:=bP.three';go_enter Tryz.func138,Tryz.ntmps138;go_wp2_with fail;generalize ((w.alloc (.cells #[.int .i64 t.k, .int .i64 t.n, .slice a t.len c] 25)).alloc (.cells #[.nilIface, .slice none 0 0] 161))=W0 at *;refine (HK.out t.n _ _).mono ?_;rintro e w1 ⟨rfl,hb1⟩;have bP1:=bP.keep hb1;have bR1:=bR.keep hb1;have hbw1:=bSz hb0 hb1;clear x0 x1 x2 bP bR hb0 hb1;go_wp2_with fail;refine (HS.out t.n _ hn (pow_keep HPW.out hbw1 rfl)).mono ?_;rintro e w2 ⟨⟨sx,rfl⟩,hb2⟩;have bS:Bk (w2.alloc (.cells #[.string sx, .int .i64 (kidN t.k), .int .i64 (numLo t.k), .int .i64 (numHi t.k)] 217)) w2.heap.size #[.string sx, .int .i64 (kidN t.k), .int .i64 (numLo t.k), .int .i64 (numHi t.k)] 217:=Bk.new _ _ rfl;have hbS:Below w2.heap.size w2 (w2.alloc (.cells #[.string sx, .int .i64 (kidN t.k), .int .i64 (numLo t.k), .int .i64 (numHi t.k)] 217)):=bAz (Below.refl _ _) _;have bP2:=(bP1.keep hb2).keep hbS;have bR2:=(bR1.keep hb2).keep hbS;have hbw2:=bSz (bSz hbw1 hb2) hbS;clear hb2 hbS bP1 bR1 hbw1 hme hen
 go_upto_region 5 with fail
 generalize (w2.alloc (.cells #[.string sx, .int .i64 (kidN t.k), .int .i64 (numLo t.k), .int .i64 (numHi t.k)] 217))=W3 at *;generalize w2.heap.size=sb at *;obtain ⟨x0,x1,x2⟩:=bP2.three';obtain ⟨s0,s1,s2,s3⟩:=bS.four';have bN:Bk (W3.alloc (.cells #[kiV t, .slice none 0 0] 161)) W3.heap.size #[kiV t, .slice none 0 0] 161:=Bk.new _ _ rfl;have bP3:=bP2.alloc (.cells #[kiV t, .slice none 0 0] 161);obtain ⟨z0,z1,z2⟩:=bP3.three';have bR3:=bR2.alloc (.cells #[kiV t, .slice none 0 0] 161);have hbw3:=bAz hbw2 (.cells #[kiV t, .slice none 0 0] 161);have hlt:=bR2.lt;clear bP2 bS bR2 HS HK bP3;go_wp2_with fail;generalize (W3.alloc (.cells #[kiV t, .slice none 0 0] 161))=W4 at *;generalize W3.heap.size=b9 at *;clear x0 x1 x2 z0 z1 z2 s0 s1 s2 s3
 go_loopw [56] (fun i wr=>∃ k:Nat,i= .int .i64 k/\OkI ea t d w b9 k (.slice a t.len c) wr) (fun i _=>t.len-(intOf i).toNat)
 case atStart=>exact ⟨0,rfl,Nat.zero_le _,⟨_,[],rfl,bN,World.ownsRow_nil _ _ _ _,fun j a x h=>by simp at h⟩,fun j hj=>absurd hj (by omega),bR3,hlt,hbw3⟩
 case round =>
  obtain ⟨k,rfl,HI⟩:=hrel;obtain ⟨hkl,⟨sl,ps,hpl,b9k,hown,hps⟩,hpok,bR4,h9,hb⟩:=HI;have HP:=(show Hid _ from hps);have HO:=(show Hid (wr.ownsRow (b9+1) 161 2 sl k (psC ps)) from hown);have HPO:=(show Hid _ from hpok);clear hown hps hpok bN bR3 hbw3
  by_cases hlt2:k<t.len
  ·have ik:((k:Int)<(t.len:Int)):=by omega
   obtain ⟨g,off,sx,rfl,hgl,c0,c1,c2,hkid,b2,m2,d2,rfl⟩:=(HSL.out.keep hb).at HLE.out hlt2;have bx:=Bk.new (w:=wr) #[.int .i64 (t.kid k).k, .int .i64 (t.kid k).n, .slice b2 m2 d2] 25 rfl;have hbx:Below wr.heap.size wr (wr.alloc (.cells #[.int .i64 (t.kid k).k, .int .i64 (t.kid k).n, .slice b2 m2 d2] 25)):=bAz (Below.refl _ _) _;have hk5:=hkid.keep hbx;have hg5:=cB (bSz hb hbx) hg;have HC5:=HR.out k hlt2 _ _ hk5 hg5 (pow_keep HPW.out (bSz hb hbx) rfl);have HC6:=(show Hid _ from HC5);have hdeep:¬ (9223372036854775807:Int)<deep+1:=by omega
   obtain ⟨q0,q1,q2⟩:=bx.three';have hbw5:=bSz hb hbx;clear HC5 hk5 hkid HSL;go_wp2_with fail;refine Calls.mono HC6.out ?_;rintro e w7 ⟨hor,hb7⟩;have hb70:Below wr.heap.size wr w7:=bSz hbx hb7;have hbw7:=bSz hbw5 hb7;have hsz:(wr.alloc (.cells #[.int .i64 (t.kid k).k, .int .i64 (t.kid k).n, .slice b2 m2 d2] 25)).heap.size=wr.heap.size+1:=by simp
   rw [hsz] at hor;clear HC6 q0 q1 q2 hg5 bx hbx hbw5 hb7 c0 c1 c2 hsz
   rcases hor with ⟨hp,a3,n3,c3,rfl,hok⟩|⟨hp,rfl⟩
   ·have H8:Hid (Below wr.heap.size wr ((w7.alloc (.cells #[kiV (t.kid k), .slice a3 n3 c3] 161)).alloc (.cells #[kiV (t.kid k), .slice a3 n3 c3] 161))):=bAz (bAz hb70 _) _;have b12:=(Bk.new (w:=w7) #[kiV (t.kid k), .slice a3 n3 c3] 161 rfl);have b9a:=b9k.keep (bAz hb70 (.cells #[kiV (t.kid k), .slice a3 n3 c3] 161));have b9b:=b9k.keep H8.out;have bnew:Bk ((w7.alloc (.cells #[kiV (t.kid k), .slice a3 n3 c3] 161)).alloc (.cells #[kiV (t.kid k), .slice a3 n3 c3] 161)) (w7.heap.size+1) #[kiV (t.kid k), .slice a3 n3 c3] 161:=Bk.new _ _ (by simp);have hown8:=pl_own_move HO.out fun x _ hx=>H8.out.block x hx;have hok8:OkS (fun g=>wr.heap.size<=g) ((w7.alloc (.cells #[kiV (t.kid k), .slice a3 n3 c3] 161)).alloc (.cells #[kiV (t.kid k), .slice a3 n3 c3] 161)) (t.kid k) (.slice a3 n3 c3):=hok.move fun x hx hl=>⟨by omega,((bAz (bAz (Below.refl w7.heap.size w7) (.cells #[kiV (t.kid k), .slice a3 n3 c3] 161)) (.cells #[kiV (t.kid k), .slice a3 n3 c3] 161))).block x hl⟩;have HK8:=(show Hid _ from hok8);have hs7:=hb70.size;have h9l:=b9k.lt;have hnb:sl.ownBlock≠some b9:=fun e=>by have:=(HO.out.lt _ e).1;omega
    have HNB:=(show Hid _ from hnb);obtain ⟨p0,p1,_,_⟩:=b12.two;obtain ⟨q0,q1,_,_⟩:=b9a.two;have htl:=HLE.out;have hpl2:=hpl.symm;subst hpl2;have HW8:=(show Hid _ from hown8);clear hok8 hok hnb hown8
    go_wp2_with (at_builtin;go_must (refine appO _ rfl _ _ rfl (b9+1) _ ps rfl HW8.out _ _ _ _ _ _ rfl bnew (by omega) (by simp;omega) ?_);intro g9 cap9 w9 own9 hgrow hor9 hlg;have b99:=pl_grew b9b hgrow HNB.out;obtain ⟨y0,y1,f0,f1⟩:=b99.two)
    refine ⟨⟨ps.length+1,by go_num,okI_step hlt2 rfl b9k HO.out HP.out HPO.out bR4 h9 hb H8.out HK8.out hp own9 hgrow hor9⟩,?_⟩;simp [intOf];omega
   ·have bo:=((bR4.keep hb70).alloc (.cells #[.nilIface, .slice none 0 0] 161)).set01 .nilIface (.slice none 0 0);have br:=((bR4.keep hb70).alloc (.cells #[.nilIface, .slice none 0 0] 161));obtain ⟨r0,r1,f0,f1⟩:=br.two;obtain ⟨y0,y1,_,_⟩:=bo.two;have HB:Hid (Below w.heap.size w (((w7.alloc (.cells #[.nilIface, .slice none 0 0] 161)).setCell ⟨w.heap.size+1,0,none⟩ .nilIface).setCell ⟨w.heap.size+1,1,none⟩ (.slice none 0 0))):=(((bAz hbw7 _).setCell (by simp) _).setCell (by simp) _);have HX:Hid (pokB t (d+1)=false):=pok_kid hlt2 hp;clear bo br hbw7 hb70 b9k bR4;go_wp2_with fail;refine bodyPost_ret (v:= .tuple #[okZ,erV ea]) (by simp [results,Tryz.results138,go_sem,y0,y1];try rfl) rfl ?_;exact ⟨.inr ⟨HX.out,rfl⟩,HB.out⟩
  ·obtain rfl:k=t.len:=by omega
   have ik:¬ ((t.len:Int)<(t.len:Int)):=by omega
   obtain ⟨q0,q1,_,_⟩:=b9k.two;obtain ⟨r0,r1,f0,f1⟩:=bR4.two;have bo:=bR4.set01 (kiV t) sl;obtain ⟨y0,y1,_,_⟩:=bo.two;have HB:Hid (Below w.heap.size w ((wr.setCell ⟨w.heap.size+1,0,none⟩ (kiV t)).setCell ⟨w.heap.size+1,1,none⟩ sl)):=((hb.setCell (by simp) _).setCell (by simp) _);have hset:∀ x,x≠w.heap.size+1->((wr.setCell ⟨w.heap.size+1,0,none⟩ (kiV t)).setCell ⟨w.heap.size+1,1,none⟩ sl).heap[x]?=wr.heap[x]?:=fun x hx=>(Below.heap_setCell _ _ _ _ hx).trans (Below.heap_setCell _ _ _ _ hx);have hok:OkS (fun g=>w.heap.size<=g) ((wr.setCell ⟨w.heap.size+1,0,none⟩ (kiV t)).setCell ⟨w.heap.size+1,1,none⟩ sl) t sl:=(okS_of (q:=fun g=>b9<g) HO.out hpl HP.out (fun g h=>h) (fun g h=>h.1)).move fun x hx _=>⟨by omega,hset x (by omega)⟩;obtain ⟨a5,c5,e5⟩:=hok.sl;subst e5;have HX:Hid (pokB t (d+1)=true):=pok_yes HH.out HPO.out;have HOK:=(show Hid _ from hok);clear bo hset hok HO HP HPO b9k bR4 hb;go_wp2_with fail;refine bodyPost_ret (v:= .tuple #[.agg #[kiV t, .slice a5 t.len c5], .nilIface]) (by simp [results,Tryz.results138,go_sem,y0,y1];try rfl) rfl ?_;exact ⟨.inl ⟨HX.out,_,_,_,rfl,HOK.out⟩,HB.out⟩
end An
end Go.Proofs.YtbdpcngcbnoioaaGreatDoor
set_option maxRecDepth 100000
set_option maxHeartbeats 8000000
namespace Go.Proofs.YtbdpcngcbnoioaaGreatDoor
open Go.RowKit Go.Shelf
namespace An
theorem okPlan_any (ea:Addr):∀ (d:Nat) (t:PT) {B:Nat} {s:Value} {w:World} (deep:Int),deep+d=5->d<=4->t.sm->Pow w->KdS B w t s->w.cell? ⟨0,0,none⟩=some (erV ea)->Calls Tryz.prog 138 #[pl t.k t.n s, .int .i64 deep] w (OkPost ea t d w):=by
 intro d
 induction d with
 | zero =>
  intro t B s w deep h1 _ hsm hpw hs hg;have hp:=pok_zero t
  by_cases hk:inB t.k 1 6=true
  ·obtain ⟨F,H⟩:=kind_of hk;refine (okPlan_bad ea H (PT.sm_n hsm) hpw hs hg (.inl (by omega))).mono ?_;rintro e w' ⟨rfl,hb⟩;exact ⟨.inr ⟨hp,rfl⟩,hb⟩
  ·have hk2:t.k<1\/6<t.k:=by simp [inB] at hk;omega
   obtain ⟨a,c,e⟩:=hs.sl;refine (okPlan_none ea ⟨a,_,c,e⟩ hk2 hg).mono ?_;rintro e w' ⟨rfl,hb⟩;exact ⟨.inr ⟨hp,rfl⟩,hb⟩
 | succ d ih =>
  intro t B s w deep h1 h4 hsm hpw hs hg
  by_cases hk:inB t.k 1 6=true
  ·obtain ⟨F,H⟩:=kind_of hk;cases hh:hereB t
   ·refine (okPlan_bad ea H (PT.sm_n hsm) hpw hs hg ?_).mono ?_
    ·have:¬ ((t.len:Int)=kidN t.k/\numLo t.k<=t.n/\t.n<=numHi t.k):=by
      intro hx;have:hereB t=true:=by simp [hereB,hk,hx.1];simp [inB,hx.2.1,hx.2.2]
      rw [hh] at this;cases this
     omega
    ·rintro e w' ⟨rfl,hb⟩;exact ⟨.inr ⟨pok_here hh,rfl⟩,hb⟩
   ·exact okPlan_good ea H (PT.sm_n hsm) hpw hs hg hh (by omega) (by omega) fun i hi W s' hs' hg' hp'=>ih (t.kid i) (deep+1) (by omega) (by omega) (PT.sm_kid hsm hi) hp' hs' hg'
  ·have hk2:t.k<1\/6<t.k:=by simp [inB] at hk;omega
   obtain ⟨a,c,e⟩:=hs.sl;refine (okPlan_none ea ⟨a,_,c,e⟩ hk2 hg).mono ?_;rintro e w' ⟨rfl,hb⟩;exact ⟨.inr ⟨pok_here (by simp [hereB,hk]),rfl⟩,hb⟩
def SokPost (t:PT) (d:Nat) (w:World) (e:Ending) (w':World):Prop:=e= .returned (.bool (pokB t d))/\Below w.heap.size w w'
theorem l21Ok_no {t:PT} {B d:Nat} {s:Value} {w:World} (hd:d<=4) (hs:KdS B w t s) (hh:d<1\/hereB t=false):Calls Tryz.prog 175 #[pl t.k t.n s, .int .i64 d] w fun e w'=>e= .returned (.bool false)/\Below w.heap.size w w':=by
 have bP:Bk (w.alloc (.cells #[.int .i64 t.k, .int .i64 t.n,s] 25)) w.heap.size #[.int .i64 t.k, .int .i64 t.n,s] 25:=Bk.new _ _ rfl;have hb0:Below w.heap.size w (w.alloc (.cells #[.int .i64 t.k, .int .i64 t.n,s] 25)):=bAz (Below.refl _ _) _;obtain ⟨x0,x1,x2⟩:=bP.three';obtain ⟨a,c,rfl⟩:=hs.sl;have hc:((d:Int)<1)\/(¬ (d:Int)<1/\¬ (t.len:Int)=kidN t.k)\/(¬ (d:Int)<1/\(t.len:Int)=kidN t.k/\inB t.n (numLo t.k) (numHi t.k)=false):=by
  rcases hh with h|h
  ·exact .inl (by omega)
  ·rcases Nat.lt_or_ge d 1 with h1|h1
   ·exact .inl (by omega)
   ·by_cases h2:(t.len:Int)=kidN t.k
    ·refine .inr (.inr ⟨by omega,h2,?_⟩)
     by_cases hk:inB t.k 1 6=true
     ·simp only [hereB,hk,h2,decide_true,Bool.true_and,Bool.and_self] at h;exact h
     ·exfalso
      have:kidN t.k = -1:=by
       simp [inB] at hk;have n1:¬ t.k=1:=by omega
       have n2:¬ t.k=2:=by omega
       have n3:¬ t.k=3:=by omega
       have n4:¬ t.k=4:=by omega
       have n5:¬ t.k=5:=by omega
       have n6:¬ t.k=6:=by omega
       simp [kidN,n1,n2,n3,n4,n5,n6]
      omega
    ·exact .inr (.inl ⟨by omega,h2⟩)
 clear hs hh bP;go_enter Tryz.func175,Tryz.ntmps175;go_wp2_with fail;refine (l21Kids_any t.k _).mono ?_;rintro e w1 ⟨rfl,rfl⟩
 rcases hc with h1|⟨h1,h2⟩|⟨h1,h2,h3⟩
 ·go_wp2_with fail;go_ret;exact ⟨rfl,hb0⟩
 ·go_wp2_with fail;go_ret;exact ⟨rfl,hb0⟩
 ·go_wp2_with fail;refine (l6In_any _ _ _ _).mono ?_;rintro e w1 ⟨rfl,rfl⟩;rw [h3];go_wp2_with fail;go_ret;exact ⟨rfl,hb0⟩
theorem l21Ok_yes {t:PT} {B d:Nat} {s:Value} {w:World} (hd:d<=3) (hs:KdS B w t s) (hh:hereB t=true)
  (hrec:∀ i,i<t.len->∀ (W:World) (s':Value),KdS B W (t.kid i) s'->Calls Tryz.prog 175 #[pl (t.kid i).k (t.kid i).n s', .int .i64 d] W (SokPost (t.kid i) d W)):Calls Tryz.prog 175 #[pl t.k t.n s, .int .i64 ((d+1:Nat):Int)] w (SokPost t (d+1) w):=by
 have bP:Bk (w.alloc (.cells #[.int .i64 t.k, .int .i64 t.n,s] 25)) w.heap.size #[.int .i64 t.k, .int .i64 t.n,s] 25:=Bk.new _ _ rfl;have hb0:Below w.heap.size w (w.alloc (.cells #[.int .i64 t.k, .int .i64 t.n,s] 25)):=bAz (Below.refl _ _) _;obtain ⟨x0,x1,x2⟩:=bP.three';have HSL:=(show Hid _ from hs.keep hb0);obtain ⟨a,c,rfl⟩:=hs.sl;have HR:=(show Hid _ from hrec);have HH:=(show Hid _ from hh);have hh2:((t.len:Int)=kidN t.k)/\inB t.n (numLo t.k) (numHi t.k)=true:=by
  simp only [hereB,Bool.and_eq_true,decide_eq_true_eq] at hh;exact ⟨hh.1.2,hh.2⟩
 obtain ⟨h2,h3⟩:=hh2;have htl:=here_len hh;have HLE:=(show Hid (t.len<=2) from htl);have hd2:((d+1:Nat):Int)=(d:Int)+1:=by omega
 have h1:¬ ((d:Int)+1<1):=by omega
 have hd3:((d:Int)+1)-1=(d:Int):=by omega
 rw [hd2];clear hs hrec hh hd2;go_enter Tryz.func175,Tryz.ntmps175;go_wp2_with fail;refine (l21Kids_any t.k _).mono ?_;rintro e w1 ⟨rfl,rfl⟩;go_wp2_with fail;refine (l6In_any _ _ _ _).mono ?_;rintro e w1 ⟨rfl,rfl⟩;rw [h3];go_wp2_with fail;generalize (w.alloc (.cells #[.int .i64 t.k, .int .i64 t.n, .slice a t.len c] 25))=W0 at *;clear x0 x1 x2
 go_loopw [8] (fun i wr=>∃ k:Nat,i= .int .i64 k/\k<=t.len/\(∀ j,j<k->pokB (t.kid j) d=true)/\Below W0.heap.size W0 wr) (fun i _=>t.len-(intOf i).toNat)
 case atStart=>exact ⟨0,rfl,Nat.zero_le _,fun j hj=>absurd hj (by omega),Below.refl _ _⟩
 case round =>
  obtain ⟨k,rfl,hkl,hpok,hb⟩:=hrel;have HPO:=(show Hid _ from hpok);clear hpok;have bP1:=bP.keep hb;obtain ⟨x0,x1,x2⟩:=bP1.three'
  by_cases hlt2:k<t.len
  ·have ik:((k:Int)<(t.len:Int)):=by omega
   obtain ⟨g,off,sx,rfl,hgl,c0,c1,c2,hkid,b2,m2,d2,rfl⟩:=(HSL.out.keep hb).at HLE.out hlt2;have HC:=(show Hid _ from HR.out k hlt2 wr _ hkid);clear hkid;go_wp2_with fail;refine Calls.mono HC.out ?_;rintro e w7 ⟨rfl,hb7⟩;have hb8:=bSz hb hb7;cases hp:pokB (t.kid k) d
   ·have HX:Hid (pokB t (d+1)=false):=pok_kid hlt2 hp;go_wp2_with fail;go_ret;exact ⟨by rw [HX.out];rfl,bSz hb0 hb8⟩
   ·have HN:Hid (∀ j,j<k+1->pokB (t.kid j) d=true):=fun j hj=>by
     rcases Nat.lt_or_ge j k with h|h
     ·exact HPO.out j h
     ·obtain rfl:j=k:=by omega
      exact hp
    go_wp2_with fail;go_roundw
    case rel=>exact ⟨k+1,by go_num,by omega,HN.out,hb8⟩
    case measure=>simp [intOf];omega
  ·obtain rfl:k=t.len:=by omega
   have ik:¬ ((t.len:Int)<(t.len:Int)):=by omega
   have HX:Hid (pokB t (d+1)=true):=pok_yes HH.out HPO.out;go_wp2_with fail;go_ret;exact ⟨by rw [HX.out];rfl,bSz hb0 hb⟩
theorem l21Ok_any:∀ (d:Nat) (t:PT) {B:Nat} {s:Value} {w:World},d<=4->KdS B w t s->Calls Tryz.prog 175 #[pl t.k t.n s, .int .i64 d] w (SokPost t d w):=by
 intro d
 induction d with
 | zero =>
  intro t B s w hd hs;refine (l21Ok_no hd hs (.inl (by omega))).mono ?_;rintro e w' ⟨rfl,hb⟩;exact ⟨by rw [pok_zero],hb⟩
 | succ d ih =>
  intro t B s w hd hs;cases hh:hereB t
  ·refine (l21Ok_no hd hs (.inr hh)).mono ?_;rintro e w' ⟨rfl,hb⟩;exact ⟨by rw [pok_here hh],hb⟩
  ·exact l21Ok_yes (by omega) hs hh fun i _ W s' hs'=>ih (t.kid i) (by omega) hs'
theorem specPlanOk_any {t:PT} {B:Nat} {s:Value} {w:World} (hs:KdS B w t s) :
  Calls Tryz.prog 102 #[pl t.k t.n s] w fun e w'=>e= .returned (.bool (pokB t 4))/\Below w.heap.size w w':=by
 have bP:Bk (w.alloc (.cells #[.int .i64 t.k, .int .i64 t.n,s] 25)) w.heap.size #[.int .i64 t.k, .int .i64 t.n,s] 25:=Bk.new _ _ rfl;have hb0:Below w.heap.size w (w.alloc (.cells #[.int .i64 t.k, .int .i64 t.n,s] 25)):=bAz (Below.refl _ _) _;obtain ⟨x0,x1,x2⟩:=bP.three';have HC:=(show Hid _ from l21Ok_any 4 t (by omega) (hs.keep hb0));obtain ⟨a,c,rfl⟩:=hs.sl;clear hs bP;go_enter Tryz.func102,Tryz.ntmps102;go_wp2_with fail;refine Calls.mono HC.out ?_;rintro e w1 ⟨rfl,hb1⟩;go_wp2_with fail;go_ret;exact ⟨rfl,bSz hb0 hb1⟩
end An
end Go.Proofs.YtbdpcngcbnoioaaGreatDoor
namespace Go.Proofs.YtbdpcngcbnoioaaGreatDoor
open Go.RowKit Go.Shelf
def anTo:An.PT->PT
 | .n0 k n=> .n0 k n
 | .n1 k n a=> .n1 k n (anTo a)
 | .n2 k n a b=> .n2 k n (anTo a) (anTo b)
 | .nm k n _=> .n0 k n
theorem anTo_k (t:An.PT):(anTo t).k=t.k:=by cases t<;>rfl
theorem anTo_n (t:An.PT):(anTo t).n=t.n:=by cases t<;>rfl
theorem an_ok:∀ {t:An.PT} {d:Nat},An.pokB t d=true->pokB (anTo t) d=true
 | t,0,h=>by rw [An.pok_zero] at h;cases h
 | .n0 _ _,_+1,h=>h
 | .n1 k n a,d+1,h=>by
  have h2:(An.hereB (.n1 k n a)&&An.pokB a d)=true:=h;simp only [Bool.and_eq_true] at h2
  show (hereB (.n1 k n (anTo a))&&pokB (anTo a) d)=true
  simp only [Bool.and_eq_true];exact ⟨h2.1,an_ok h2.2⟩
 | .n2 k n a b,d+1,h=>by
  have h2:(An.hereB (.n2 k n a b)&&An.pokB a d&&An.pokB b d)=true:=h;simp only [Bool.and_eq_true] at h2
  show (hereB (.n2 k n (anTo a) (anTo b))&&pokB (anTo a) d&&pokB (anTo b) d)=true
  simp only [Bool.and_eq_true];exact ⟨⟨h2.1.1,an_ok h2.1.2⟩,an_ok h2.2⟩
 | .nm _ _ _,_+1,h=>by cases h
theorem an_kds {B:Nat} {w:World}:∀ {t:An.PT} {d:Nat} {s:Value},An.pokB t d=true->An.KdS B w t s->KdS B w (anTo t) s
 | t,0,_,h,_=>by rw [An.pok_zero] at h;cases h
 | .n0 _ _,_+1,_,_,hs=>hs
 | .n1 k n a,d+1,_,h,hs=>by
  have h2:(An.hereB (.n1 k n a)&&An.pokB a d)=true:=h;simp only [Bool.and_eq_true] at h2;obtain ⟨g,off,c,sx,e,hg,h3,h4,h5,h6⟩:=hs;exact ⟨g,off,c,sx,e,hg,by rw [anTo_k];exact h3,by rw [anTo_n];exact h4,h5,an_kds h2.2 h6⟩
 | .n2 k n a b,d+1,_,h,hs=>by
  have h2:(An.hereB (.n2 k n a b)&&An.pokB a d&&An.pokB b d)=true:=h;simp only [Bool.and_eq_true] at h2;obtain ⟨g,off,c,sx,sy,e,hg,h3,h4,h5,h6,h7,h8,h9,h10⟩:=hs;exact ⟨g,off,c,sx,sy,e,hg,by rw [anTo_k];exact h3,by rw [anTo_n];exact h4,h5,by rw [anTo_k];exact h6,by rw [anTo_n];exact h7,h8,an_kds h2.1.2 h9,an_kds h2.2 h10⟩
 | .nm _ _ _,_+1,_,h,_=>by cases h
inductive RT where
 | nil
 | mk (k n:Int) (m:Nat) (f:Nat->RT)
def RT.k:RT->Int| .nil=>0| .mk k _ _ _=>k
def RT.n:RT->Int| .nil=>0| .mk _ n _ _=>n
def RT.m:RT->Nat| .nil=>0| .mk _ _ m _=>m
def RT.f:RT->Nat->RT| .nil,_=> .nil| .mk _ _ _ f,i=>f i
def RT.fits:RT->Prop
 | .nil=>False
 | .mk k n m f=>(-9223372036854775808<=k/\k<=9223372036854775807)/\(-9223372036854775808<=n/\n<=9223372036854775807)/\∀ i,i<m->(f i).fits
def RT.nds:RT->Nat
 | .nil=>0
 | .mk _ _ m f=>m+((List.range m).map fun i=>(f i).nds).sum
def RT.cut:RT->An.PT
 | .nil=> .n0 0 0
 | .mk k n 0 _=> .n0 k n
 | .mk k n 1 f=> .n1 k n (f 0).cut
 | .mk k n 2 f=> .n2 k n (f 0).cut (f 1).cut
 | .mk k n (m+3) _=> .nm k n m
theorem RT.cut_k (t:RT):t.cut.k=t.k:=by
 rcases t with _|⟨k,n,m,f⟩
 ·rfl
 match m with
 | 0=>rfl
 | 1=>rfl
 | 2=>rfl
 | m+3=>rfl
theorem RT.cut_n (t:RT):t.cut.n=t.n:=by
 rcases t with _|⟨k,n,m,f⟩
 ·rfl
 match m with
 | 0=>rfl
 | 1=>rfl
 | 2=>rfl
 | m+3=>rfl
theorem RT.cut_sm:∀ {t:RT},t.fits->t.cut.sm
 | .nil,h=>h.elim
 | .mk _ _ 0 _,h=>h.2.1
 | .mk _ _ 1 f,h=>⟨h.2.1,RT.cut_sm (h.2.2 0 (by omega))⟩
 | .mk _ _ 2 f,h=>⟨h.2.1,RT.cut_sm (h.2.2 0 (by omega)),RT.cut_sm (h.2.2 1 (by omega))⟩
 | .mk _ _ (_+3) _,h=>h.2.1
def RdS (B:Nat) (w:World):RT->Value->Prop
 | .nil,_=>False
 | .mk _ _ m f,s=>∃ a c,s= .slice a m c/\m<=c/\c<=maxLen/\∀ i,i<m->∃ g off sx,a=some ⟨g,off,none⟩/\B<=g/\w.cell? ⟨g,off+i*3,none⟩=some (.int .i64 (f i).k)/\w.cell? ⟨g,off+i*3+1,none⟩=some (.int .i64 (f i).n)/\w.cell? ⟨g,off+i*3+2,none⟩=some sx/\RdS B w (f i) sx
theorem RdS.keep {B:Nat} {w w':World} (hb:Below w.heap.size w w'):∀ {t:RT} {s:Value},RdS B w t s->RdS B w' t s
 | .nil,_,h=>h.elim
 | .mk _ _ _ f,_,⟨a,c,e,h1,h2,h⟩=>⟨a,c,e,h1,h2,fun i hi=>by
  obtain ⟨g,off,sx,e1,hg,h3,h4,h5,h6⟩:=h i hi;exact ⟨g,off,sx,e1,hg,cB hb h3,cB hb h4,cB hb h5,RdS.keep hb h6⟩⟩
theorem RdS.less {B B':Nat} {w:World} (hB:B'<=B):∀ {t:RT} {s:Value},RdS B w t s->RdS B' w t s
 | .nil,_,h=>h.elim
 | .mk _ _ _ f,_,⟨a,c,e,h1,h2,h⟩=>⟨a,c,e,h1,h2,fun i hi=>by
  obtain ⟨g,off,sx,e1,hg,h3,h4,h5,h6⟩:=h i hi;exact ⟨g,off,sx,e1,Nat.le_trans hB hg,h3,h4,h5,RdS.less hB h6⟩⟩
theorem RdS.sl {B:Nat} {w:World} {t:RT} {s:Value} (h:RdS B w t s):∃ a c,s= .slice a t.m c/\t.m<=c/\c<=maxLen:=by
 rcases t with _|⟨k,n,m,f⟩
 ·exact h.elim
 obtain ⟨a,c,e,h1,h2,_⟩:=h;exact ⟨a,c,e,h1,h2⟩
theorem RdS.at {B:Nat} {w:World} {t:RT} {a:Option Addr} {n c:Nat} (h:RdS B w t (.slice a n c)) {i:Nat} (hi:i<t.m) :
  ∃ g off b d,a=some ⟨g,off,none⟩/\g<w.heap.size/\w.cell? ⟨g,off+i*3,none⟩=some (.int .i64 (t.f i).k)/\w.cell? ⟨g,off+i*3+1,none⟩=some (.int .i64 (t.f i).n)/\w.cell? ⟨g,off+i*3+2,none⟩=some (.slice b (t.f i).m d)/\RdS B w (t.f i) (.slice b (t.f i).m d):=by
 rcases t with _|⟨k,n,m,f⟩
 ·exact h.elim
 obtain ⟨a',c',e,_,_,h2⟩:=h;cases e;obtain ⟨g,off,sx,e1,_,h3,h4,h5,h6⟩:=h2 i hi;obtain ⟨b,d,e2,_⟩:=h6.sl;subst e2;exact ⟨g,off,b,d,e1,lC h3,h3,h4,h5,h6⟩
theorem RdS.cut {B:Nat} {w:World}:∀ {t:RT} {s:Value},RdS B w t s->An.KdS B w t.cut s
 | .nil,_,h=>h.elim
 | .mk _ _ 0 _,_,⟨a,c,e,_⟩=>⟨a,c,e⟩
 | .mk _ _ 1 f,_,⟨a,c,e,_,_,h⟩=>by
  obtain ⟨g,off,sx,e1,hg,h3,h4,h5,h6⟩:=h 0 (by omega);subst e1;exact ⟨g,off,c,sx,e,hg,by rw [RT.cut_k];simpa using h3,by rw [RT.cut_n];simpa using h4,by simpa using h5,RdS.cut h6⟩
 | .mk _ _ 2 f,_,⟨a,c,e,_,_,h⟩=>by
  obtain ⟨g,off,sx,e1,hg,h3,h4,h5,h6⟩:=h 0 (by omega);obtain ⟨g2,off2,sy,e2,hg2,h7,h8,h9,h10⟩:=h 1 (by omega);subst e1;cases e2;exact ⟨g,off,c,sx,sy,e,hg,by rw [RT.cut_k];simpa using h3,by rw [RT.cut_n];simpa using h4,by simpa using h5,by rw [RT.cut_k];simpa using h7,by rw [RT.cut_n];simpa using h8,by simpa using h9,RdS.cut h6,RdS.cut h10⟩
 | .mk _ _ (m+3) _,_,⟨a,c,e,_⟩=>⟨a,c,e⟩
end Go.Proofs.YtbdpcngcbnoioaaGreatDoor
