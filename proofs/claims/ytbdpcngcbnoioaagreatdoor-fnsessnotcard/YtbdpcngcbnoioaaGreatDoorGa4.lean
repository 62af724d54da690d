import Derived.Test.YtbdpcngcbnoioaaGreatDoorGa1
set_option maxHeartbeats 4000000
namespace Go.Proofs.YtbdpcngcbnoioaaGreatDoor
open Go.RowKit
structure Bx (g:Nat) (w w':World):Prop where
 os:w'.os=w.os
 tape:w'.tape=w.tape
 output:w'.output=w.output
 size:w.heap.size<=w'.heap.size
 block:∀ k,k<w.heap.size->k≠g->w'.heap[k]?=w.heap[k]?
theorem Bx.refl (g:Nat) (w:World):Bx g w w:=⟨rfl,rfl,rfl,Nat.le_refl _,fun _ _ _=>rfl⟩
theorem Bx.trans {g:Nat} {a b c:World} (h:Bx g a b) (k:Bx g b c):Bx g a c :=
 ⟨k.os.trans h.os,k.tape.trans h.tape,k.output.trans h.output,Nat.le_trans h.size k.size,fun i hi hg=>(k.block i (Nat.lt_of_lt_of_le hi h.size) hg).trans (h.block i hi hg)⟩
theorem Bx.alloc {g:Nat} {a w:World} (h:Bx g a w) (o:Obj):Bx g a (w.alloc o) :=
 h.trans ⟨rfl,rfl,rfl,by simp,fun _ hk _=>Below.heap_alloc _ _ _ hk⟩
theorem Bx.drew {g:Nat} {a w:World} (h:Bx g a w):Bx g a w.drew:=⟨h.os,h.tape,h.output,h.size,h.block⟩
theorem Bx.drewN {g:Nat} {a w:World} (h:Bx g a w) (n:Nat):Bx g a (w.drewN n):=⟨h.os,h.tape,h.output,h.size,h.block⟩
theorem Bx.setG {g:Nat} {a w:World} (h:Bx g a w) {p:Addr} (hp:p.block=g) (u:Value):Bx g a (w.setCell p u) :=
 h.trans ⟨rfl,rfl,rfl,by simp [World.setCell],fun k _ hg=>Below.heap_setCell _ _ _ _ (by omega)⟩
theorem Bx.setNew {g:Nat} {a w:World} (h:Bx g a w) {p:Addr} (hp:a.heap.size<=p.block) (u:Value):Bx g a (w.setCell p u) :=
 ⟨h.os,h.tape,h.output,by simpa [World.setCell] using h.size,fun k hk hg=>by rw [Below.heap_setCell _ _ _ _ (by omega)];exact h.block k hk hg⟩
theorem Bx.of_below {g:Nat} {w w':World} (h:Below w.heap.size w w'):Bx g w w':=⟨h.os,h.tape,h.output,h.size,fun k hk _=>h.block k hk⟩
theorem Bx.below {g B:Nat} {w0 w w':World} (h:Bx g w w') (h0:Below B w0 w) (hB:B<=w.heap.size) (hg:B<=g):Below B w0 w' :=
 h0.trans ⟨h.os,h.tape,h.output,h.size,fun k hk=>h.block k (by omega) (by omega)⟩
theorem Bk.keepx {g:Nat} {w w1:World} {k:Nat} {c:Array Value} {t:TypeId} (h:Bk w k c t) (hb:Bx g w w1) (hk:k≠g):Bk w1 k c t:=by
 unfold Bk;rw [hb.block k h.lt hk];exact h
def Src (w:World) (v:Value) (n:Nat):Prop :=
 ∃ a cap,v= .slice a n cap/\n<=cap/\cap<=maxLen/\∀ i:Nat,i<n->∃ (b off:Nat) (z:Int),a=some ⟨b,off,none⟩/\b<w.heap.size/\w.cell? ⟨b,off+i,none⟩=some (.int .u8 z)/\0<=z/\z<=255
theorem Src.nil (w:World):Src w (.slice none 0 0) 0:=⟨none,0,rfl,Nat.le_refl _,by unfold maxLen;omega,fun i h=>by omega⟩
theorem wf_u8 {n:Int} (h:(Lit.int .u8 n).wf=true):0<=n/\n<=255:=by
 simp [Lit.wf,IntKind.min,IntKind.max,IntKind.signed,IntKind.bits] at h;omega
theorem Src.of_row {w:World} {x:Addr} {len cap:Nat} {zs:List Int} (hl:len<=cap) (hm:cap<=maxLen) (hz:zs.length=cap) (hcell:∀ i,i<zs.length->w.cell? (x.add i)=some (.int .u8 (zs.getD i 0))) (hwz:∀ n∈zs,(Lit.int .u8 n).wf=true) :
  Src w (.slice (some x) len cap) len:=by
 refine ⟨some x,cap,rfl,hl,hm,fun i hi=>?_⟩;obtain ⟨b,off,spot⟩:=x;have hspot:spot=none:=by
  have h0:=World.cell?_spot (hcell 0 (by omega))
  simpa [Addr.add] using h0
 subst hspot;have hc':w.cell? ⟨b,off+i,none⟩=some (.int .u8 (zs.getD i 0)):=by
  have hc:=hcell i (by omega)
  by_cases h0:i=0
  ·subst h0;simpa [Addr.add] using hc
  ·simpa [Addr.add,h0] using hc
 have hmem:zs.getD i 0∈zs:=by
  have hi':i<zs.length:=by omega
  simp [List.getD,List.getElem?_eq_getElem hi']
 obtain ⟨h0,h1⟩:=wf_u8 (hwz _ hmem);exact ⟨b,off,zs.getD i 0,rfl,lC hc',hc',h0,h1⟩
theorem Src.keep {w w1:World} {v:Value} {n:Nat} (h:Src w v n) (hb:Below w.heap.size w w1):Src w1 v n:=by
 obtain ⟨a,cap,rfl,h1,h2,h3⟩:=h;refine ⟨a,cap,rfl,h1,h2,fun i hi=>?_⟩;obtain ⟨b,off,z,rfl,hb',hc,h4,h5⟩:=h3 i hi;exact ⟨b,off,z,rfl,Nat.lt_of_lt_of_le hb' hb.size,cB hb hc,h4,h5⟩
structure Rd (B:Nat) (w:World) (g:Nat) (v:Value) (n:Nat) (p:Int):Prop where
 blk:Bk w g #[v, .int .i64 p] 144
 bytes:∃ a cap,v= .slice a n cap/\n<=cap/\cap<=maxLen/\∀ i:Nat,i<n->∃ (b off:Nat) (z:Int),a=some ⟨b,off,none⟩/\b<B/\w.cell? ⟨b,off+i,none⟩=some (.int .u8 z)/\0<=z/\z<=255
 few:n<=2000
 here:B<=g
 size:B<=w.heap.size
theorem Rd.keepx {B:Nat} {w w1:World} {g:Nat} {v:Value} {n:Nat} {p q:Int} (h:Rd B w g v n p) (hb:Bx g w w1) (hq:Bk w1 g #[v, .int .i64 q] 144):Rd B w1 g v n q:=by
 refine ⟨hq,?_,h.few,h.here,Nat.le_trans h.size hb.size⟩;obtain ⟨a,cap,rfl,h1,h2,h3⟩:=h.bytes;refine ⟨a,cap,rfl,h1,h2,fun i hi=>?_⟩;obtain ⟨b,off,z,rfl,hb',hc,h4,h5⟩:=h3 i hi;have hs:=h.size;have hh:=h.here;refine ⟨b,off,z,rfl,hb',?_,h4,h5⟩;rw [World.cell?_of_block (w:=w) (hb.block b (by omega) (by omega))];exact hc
theorem Rd.keepb {B:Nat} {w w1:World} {g:Nat} {v:Value} {n:Nat} {p:Int} (h:Rd B w g v n p) (hb:Below w.heap.size w w1):Rd B w1 g v n p :=
 h.keepx (Bx.of_below hb) (h.blk.keep hb)
theorem ret_int {k:IntKind} {a b:Int} (h:a=b):Ending.returned (.int k a)= .returned (.int k b):=by rw [h]
theorem bits_xor_i64_nat (a b:Nat) (ha:a<4611686018427387904) (hb:b<4611686018427387904) :
  bits .xor .i64 (a:Int) (b:Int)=((a ^^^ b:Nat):Int):=by
 have hx:a ^^^ b<2^62:=Nat.xor_lt_two_pow (by omega) (by omega);have h1:(BitVec.ofInt 64 (a:Int)).toNat=a:=by
  rw [BitVec.ofInt_natCast,BitVec.toNat_ofNat];exact Nat.mod_eq_of_lt (by omega)
 have h2:(BitVec.ofInt 64 (b:Int)).toNat=b:=by
  rw [BitVec.ofInt_natCast,BitVec.toNat_ofNat];exact Nat.mod_eq_of_lt (by omega)
 show IntKind.i64.wrap ((BitVec.ofInt 64 (a:Int) ^^^ BitVec.ofInt 64 (b:Int)).toNat:Int)=_
 rw [BitVec.toNat_xor,h1,h2,IntKind.wrap_i64];omega
theorem mix_bound (x m:Int) (h0:0<=x) (h1:x<4611686018427387904) (hm:1<=m):0<=(bits .xor .i64 x (x / 64)).tmod m/\(bits .xor .i64 x (x / 64)).tmod m<m:=by
 obtain ⟨X,rfl⟩:=Int.eq_ofNat_of_zero_le h0;have e:((X:Int) / 64)=((X / 64:Nat):Int):=by omega
 rw [e,bits_xor_i64_nat _ _ (by omega) (by omega)];rw [Int.tmod_eq_emod_of_nonneg (by omega)];exact ⟨Int.emod_nonneg _ (by omega),Int.emod_lt_of_pos _ (by omega)⟩
theorem pick_step {B:Nat} {w:World} {g:Nat} {v:Value} {n:Nat} {p:Int} (h:Rd B w g v n p) :
  Rd B (w.setCell ⟨g,1,none⟩ (.int .i64 (p+1))) g v n (p+1)/\Bx g w (w.setCell ⟨g,1,none⟩ (.int .i64 (p+1))) :=
 have hx:Bx g w (w.setCell ⟨g,1,none⟩ (.int .i64 (p+1))):=(Bx.refl g w).setG rfl _
 ⟨h.keepx hx (h.blk.set 1 _),hx⟩
theorem pick_none {B:Nat} {w:World} {g:Nat} {v:Value} {p:Int} (h:Rd B w g v 0 p) (hp:0<=p) (hp':p<=1000000) (m:Int) (hm:1<=m) :
  Calls Tryz.prog 60 #[.pointer (some ⟨g,0,none⟩), .int .i64 m] w fun e w'=>∃ k:Int,e= .returned (.int .i64 k)/\0<=k/\k<m/\Rd B w' g v 0 (p+1)/\Bx g w w':=by
 obtain ⟨hr,hx⟩:=pick_step h;obtain ⟨c0,c1,f0,f1⟩:=h.blk.two;obtain ⟨d0,d1,_,_⟩:=hr.blk.two;obtain ⟨a,cap,rfl,h1,h2,_⟩:=h.bytes;go_enter Tryz.func60,Tryz.ntmps60
 go_wp2
 go_ret;exact ⟨0,rfl,by omega,by omega,hr,hx⟩
theorem pick_in {B:Nat} {w:World} {g:Nat} {v:Value} {n:Nat} {p:Nat} (h:Rd B w g v n p) (hp:p<n) (m:Int) (hm:1<=m) (hm':m<=1000) :
  Calls Tryz.prog 60 #[.pointer (some ⟨g,0,none⟩), .int .i64 m] w fun e w'=>∃ k:Int,e= .returned (.int .i64 k)/\0<=k/\k<m/\Rd B w' g v n (p+1)/\Bx g w w':=by
 obtain ⟨hr,hx⟩:=pick_step h;obtain ⟨c0,c1,f0,f1⟩:=h.blk.two;obtain ⟨d0,d1,_,_⟩:=hr.blk.two;have hn:=h.few;obtain ⟨a,cap,rfl,h1,h2,h3⟩:=hr.bytes;obtain ⟨b,off,z,rfl,hb,hc,hz0,hz1⟩:=h3 p hp;unfold maxLen at h2;clear h3;have e0:((n:Int)==0)=false:=by simp;omega
 go_enter Tryz.func60,Tryz.ntmps60
 go_wp2
 go_ret;exact ⟨z%m,rfl,Int.emod_nonneg _ (by omega),Int.emod_lt_of_pos _ (by omega),hr,hx⟩
theorem pick_out {B:Nat} {w:World} {g:Nat} {v:Value} {n:Nat} {p:Nat} (h:Rd B w g v n p) (hn0:0<n) (hp:n<=p) (hp':p<=1000000) (m:Int) (hm:1<=m) (hm':m<=1000) :
  Calls Tryz.prog 60 #[.pointer (some ⟨g,0,none⟩), .int .i64 m] w fun e w'=>∃ k:Int,e= .returned (.int .i64 k)/\0<=k/\k<m/\Rd B w' g v n (p+1)/\Bx g w w':=by
 obtain ⟨hr,hx⟩:=pick_step h;obtain ⟨c0,c1,f0,f1⟩:=h.blk.two;obtain ⟨d0,d1,_,_⟩:=hr.blk.two;have hn:=h.few;obtain ⟨a,cap,rfl,h1,h2,h3⟩:=hr.bytes;have i1:p%n<n:=Nat.mod_lt _ hn0;have i2:(p*7+3)%n<n:=Nat.mod_lt _ hn0;obtain ⟨b,off,z,rfl,hb,hc,hz0,hz1⟩:=h3 (p%n) i1;obtain ⟨b',off',y,heq,hb',hc',hy0,hy1⟩:=h3 ((p*7+3)%n) i2;simp at heq;obtain ⟨rfl,rfl⟩:=heq;unfold maxLen at h2;clear h3;have e0:((n:Int)==0)=false:=by simp;omega
 have e1:decide ((p:Int)<(n:Int))=false:=by simp;omega
 have e2:decide (m<1)=false:=by simp;omega
 have j1:(0:Int)<=((p:Int)*7+3)%(n:Int):=Int.emod_nonneg _ (by omega);have j2:((p:Int)*7+3)%(n:Int)<(n:Int):=Int.emod_lt_of_pos _ (by omega);have j3:(0:Int)<=(p:Int) / (n:Int):=Int.ediv_nonneg (by omega) (by omega);have j4:(p:Int) / (n:Int)<=(p:Int):=Int.ediv_le_self _ (by omega);go_enter Tryz.func60,Tryz.ntmps60
 go_wp2
 go_quiet (fail)
 go_wp2
 go_ret;obtain ⟨q0,q1⟩:=mix_bound (z*131+y*1117+p*29+p / n*53) m (by omega) (by omega) hm;exact ⟨_,rfl,q0,q1,hr.keepb (bDz (Below.refl _ _) _),hx.drewN _⟩
theorem pA {B:Nat} {w:World} {g:Nat} {v:Value} {n:Nat} {p:Int} (h:Rd B w g v n p) (hp:0<=p) (hp':p<=1000000) (m:Int) (hm:1<=m) (hm':m<=1000) :
  Calls Tryz.prog 60 #[.pointer (some ⟨g,0,none⟩), .int .i64 m] w fun e w'=>∃ k:Int,e= .returned (.int .i64 k)/\0<=k/\k<m/\Rd B w' g v n (p+1)/\Bx g w w':=by
 obtain ⟨q,rfl⟩:=Int.eq_ofNat_of_zero_le hp
 by_cases h0:n=0
 ·subst h0;exact pick_none h hp hp' m hm
 ·by_cases h1:q<n
  ·exact pick_in h h1 m hm hm'
  ·exact pick_out h (by omega) (by omega) (by omega) m hm hm'
theorem Rd.apart {B:Nat} {w:World} {g:Nat} {v:Value} {n:Nat} {p:Int} (h:Rd B w g v n p) {q:Addr} (hq:g≠q.block) (hB:B<=q.block) (u:Value):Rd B (w.setCell q u) g v n p:=by
 refine ⟨h.blk.apart hq u,?_,h.few,h.here,by simpa [World.setCell] using h.size⟩;obtain ⟨a,cap,rfl,h1,h2,h3⟩:=h.bytes;refine ⟨a,cap,rfl,h1,h2,fun i hi=>?_⟩;obtain ⟨b,off,z,rfl,hb',hc,h4,h5⟩:=h3 i hi;exact ⟨b,off,z,rfl,hb',cell_apart hc (by omega),h4,h5⟩
theorem l71Time_any {B:Nat} {w:World} {g:Nat} {v:Value} {n:Nat} {p:Int} (h:Rd B w g v n p) (hp:0<=p) (hp':p<=900000) :
  Calls Tryz.prog 61 #[.pointer (some ⟨g,0,none⟩)] w fun e w'=>∃ a b:Int,e= .returned (tv a b)/\0<=a/\a<=7/\0<=b/\b<=7/\(∃ p':Int,p<=p'/\p'<=p+3/\Rd B w' g v n p')/\Bx g w w':=by
 have hg:=h.blk.lt;have hs:=h.size;have hh:=h.here;have h0:=h.keepb (bAz (Below.refl _ _) (.cells #[.int .i64 0, .int .i64 0] 32));have br:Bk (w.alloc (.cells #[.int .i64 0, .int .i64 0] 32)) w.heap.size #[.int .i64 0, .int .i64 0] 32:=Bk.new _ _ rfl;have x0:Bx g w (w.alloc (.cells #[.int .i64 0, .int .i64 0] 32)):=(Bx.refl _ _).alloc _;go_enter Tryz.func61,Tryz.ntmps61;go_wp2_with fail;refine (pA h0 hp (by omega) _ (by omega) (by omega)).mono ?_;rintro e w1 ⟨k,rfl,hk0,hk1,hr1,hx1⟩;have br1:=br.keepx hx1 (by omega)
 by_cases hk:k=0
 ·subst hk;go_wp2_with fail;refine (pA hr1 (by omega) (by omega) _ (by omega) (by omega)).mono ?_;rintro e w2 ⟨a,rfl,ha0,ha1,hr2,hx2⟩;have br2:=br1.keepx hx2 (by omega);go_wp2_with fail;refine (pA hr2 (by omega) (by omega) _ (by omega) (by omega)).mono ?_;rintro e w3 ⟨b,rfl,hb0,hb1,hr3,hx3⟩;have br3:=br2.keepx hx3 (by omega);obtain ⟨q0,q1,f0,f1⟩:=br3.two;go_wp2_with fail;refine bodyPost_ret (by simp [results,Tryz.results61,go_sem,set1a br3,set2b br3];try rfl) rfl ?_;exact ⟨a,b,rfl,by omega,by omega,by omega,by omega,⟨_,by omega,by omega,(hr3.apart (by simp;omega) (by simp;omega) _).apart (by simp;omega) (by simp;omega) _⟩,((((x0.trans hx1).trans hx2).trans hx3).setNew (by simp) _).setNew (by simp) _⟩
 ·have hkb:(k==0)=false:=by simpa using hk
  go_wp2_with fail;refine (pA hr1 (by omega) (by omega) _ (by omega) (by omega)).mono ?_;rintro e w2 ⟨a,rfl,ha0,ha1,hr2,hx2⟩;have br2:=br1.keepx hx2 (by omega);go_wp2_with fail;refine (pA hr2 (by omega) (by omega) _ (by omega) (by omega)).mono ?_;rintro e w3 ⟨b,rfl,hb0,hb1,hr3,hx3⟩;have br3:=br2.keepx hx3 (by omega);obtain ⟨q0,q1,f0,f1⟩:=br3.two;go_wp2_with fail;refine bodyPost_ret (by simp [results,Tryz.results61,go_sem,set1a br3,set2b br3];try rfl) rfl ?_;exact ⟨a,b,rfl,by omega,by omega,by omega,by omega,⟨_,by omega,by omega,(hr3.apart (by simp;omega) (by simp;omega) _).apart (by simp;omega) (by simp;omega) _⟩,((((x0.trans hx1).trans hx2).trans hx3).setNew (by simp) _).setNew (by simp) _⟩
theorem Rd.new {w:World} {a:Option Addr} {len cap k:Nat} (hk:k<=len) (hf:k<=2000) (h1:len<=cap) (h2:cap<=maxLen)
  (h3:∀ i:Nat,i<len->∃ (b off:Nat) (z:Int),a=some ⟨b,off,none⟩/\b<w.heap.size/\w.cell? ⟨b,off+i,none⟩=some (.int .u8 z)/\0<=z/\z<=255) :
  Rd w.heap.size (w.alloc (.cells #[.slice a k cap, .int .i64 0] 144)) w.heap.size (.slice a k cap) k 0:=by
 refine ⟨Bk.new _ _ rfl,⟨a,cap,rfl,by omega,h2,fun i hi=>?_⟩,hf,Nat.le_refl _,by simp⟩;obtain ⟨b,off,z,rfl,hb,hc,h4,h5⟩:=h3 i (by omega);exact ⟨b,off,z,rfl,hb,cell_alloc hc,h4,h5⟩
theorem l6Open_any (a:Option Addr) (len cap:Nat) (w:World) (h:Src w (.slice a len cap) len) :
  Calls Tryz.prog 58 #[.slice a len cap] w fun e w'=>e= .returned (.pointer (some ⟨w.heap.size,0,none⟩))/\(∃ v n,Rd w.heap.size w' w.heap.size v n 0)/\Below w.heap.size w w':=by
 obtain ⟨a',cap',e,h1,h2,h3⟩:=h;simp at e;obtain ⟨rfl,rfl⟩:=e;have h2':=h2;unfold maxLen at h2'
 by_cases hl:(2000:Int)<(len:Int)
 ·have R:=Rd.new (k:=2000) (by omega) (by omega) h1 h2 h3;clear h3;go_enter Tryz.func58,Tryz.ntmps58
  go_wp2
  go_ret;exact ⟨rfl,⟨_,_,R⟩,bAz (Below.refl _ _) _⟩
 ·have R:=Rd.new (k:=len) (by omega) (by omega) h1 h2 h3;clear h3;go_enter Tryz.func58,Tryz.ntmps58
  go_wp2
  go_ret;exact ⟨rfl,⟨_,_,R⟩,bAz (Below.refl _ _) _⟩
theorem l71Odd_any {B:Nat} {w:World} {g:Nat} {v:Value} {n:Nat} {p:Int} (h:Rd B w g v n p) (hp:0<=p) (hp':p<=900000) :
  Calls Tryz.prog 64 #[.pointer (some ⟨g,0,none⟩)] w fun e w'=>∃ a b:Int,e= .returned (tv a b) /\ -1<=a/\a<=8 /\ -1<=b/\b<=8/\(∃ p':Int,p<=p'/\p'<=p+5/\Rd B w' g v n p')/\Bx g w w':=by
 have hg:=h.blk.lt;have hs:=h.size;have hh:=h.here;have h0:=h.keepb (bAz (Below.refl _ _) (.cells #[.int .i64 0, .int .i64 0] 32));have br:Bk (w.alloc (.cells #[.int .i64 0, .int .i64 0] 32)) w.heap.size #[.int .i64 0, .int .i64 0] 32:=Bk.new _ _ rfl;have x0:Bx g w (w.alloc (.cells #[.int .i64 0, .int .i64 0] 32)):=(Bx.refl _ _).alloc _;go_enter Tryz.func64,Tryz.ntmps64;go_wp2_with fail;refine (l71Time_any h0 hp (by omega)).mono ?_;rintro e w1 ⟨a,b,rfl,ha0,ha1,hb0,hb1,⟨p1,hp1,hp2,hr1⟩,hx1⟩;have br1:=br.keepx hx1 (by omega);have lr1:=br1.lt;have hz1:=hx1.size;simp only [World.size_alloc] at hz1;go_wp2_with fail;have hr2:=hr1.keepb (bAz (Below.refl _ _) (.cells #[.int .i64 a, .int .i64 b] 32));have bt2:Bk (w1.alloc (.cells #[.int .i64 a, .int .i64 b] 32)) w1.heap.size #[.int .i64 a, .int .i64 b] 32:=Bk.new _ _ rfl;have br2:=br1.alloc (.cells #[.int .i64 a, .int .i64 b] 32);have x2:Bx g w (w1.alloc (.cells #[.int .i64 a, .int .i64 b] 32)):=(x0.trans hx1).alloc _;refine (pA hr2 (by omega) (by omega) _ (by omega) (by omega)).mono ?_;rintro e w3 ⟨k,rfl,hk0,hk1,hr3,hx3⟩;have br3:=br2.keepx hx3 (by omega);have bt3:=bt2.keepx hx3 (by omega);have x3:=x2.trans hx3
 by_cases hk:k=0
 ·subst hk;go_wp2_with fail;have hr4:=hr3.keepb (bAz (Below.refl _ _) (.cells #[.int .i64 (-1), .int .i64 8] 3));have bl4:Bk (w3.alloc (.cells #[.int .i64 (-1), .int .i64 8] 3)) w3.heap.size #[.int .i64 (-1), .int .i64 8] 3:=Bk.new _ _ rfl;have br4:=br3.alloc (.cells #[.int .i64 (-1), .int .i64 8] 3);have bt4:=bt3.alloc (.cells #[.int .i64 (-1), .int .i64 8] 3);have x4:=x3.alloc (.cells #[.int .i64 (-1), .int .i64 8] 3);have hz3:=hx3.size;simp only [World.size_alloc] at hz3;refine (pA hr4 (by omega) (by omega) _ (by omega) (by omega)).mono ?_;rintro e w5 ⟨j,rfl,hj0,hj1,hr5,hx5⟩;have br5:=br4.keepx hx5 (by omega);have bt5:=bt4.keepx hx5 (by omega);have bl5:=bl4.keepx hx5 (by omega);have x5:=x4.trans hx5;obtain ⟨l0,l1,_,_⟩:=bl5.two;obtain ⟨t0,t1,ft0,ft1⟩:=bt5.two
  rcases (show j=0\/j=1 by omega) with rfl|rfl
  ·have bt6:=bt5.set 0 (.int .i64 (-1));have br6:=br5.apart (p:=⟨w1.heap.size,0,none⟩) (by simp;omega) (.int .i64 (-1));have hr6:=hr5.apart (q:=⟨w1.heap.size,0,none⟩) (by simp;omega) (by simp;omega) (.int .i64 (-1));have x6:=x5.setNew (p:=⟨w1.heap.size,0,none⟩) (by simp;omega) (.int .i64 (-1))
   go_upto_region 7 with fail
   generalize (w5.setCell ⟨w1.heap.size,0,none⟩ (.int .i64 (-1)))=w6 at *;obtain ⟨u0,u1,_,_⟩:=bt6.two;obtain ⟨q0,q1,f0,f1⟩:=br6.two;go_wp2_with fail;refine bodyPost_ret (by simp [results,Tryz.results64,go_sem,set1a br6,set2b br6];try rfl) rfl ?_;exact ⟨_,_,rfl,by omega,by omega,by omega,by omega,⟨_,by omega,by omega,(hr6.apart (by simp;omega) (by simp;omega) _).apart (by simp;omega) (by simp;omega) _⟩,(x6.setNew (by simp) _).setNew (by simp) _⟩
  ·have bt6:=bt5.set 0 (.int .i64 (8));have br6:=br5.apart (p:=⟨w1.heap.size,0,none⟩) (by simp;omega) (.int .i64 (8));have hr6:=hr5.apart (q:=⟨w1.heap.size,0,none⟩) (by simp;omega) (by simp;omega) (.int .i64 (8));have x6:=x5.setNew (p:=⟨w1.heap.size,0,none⟩) (by simp;omega) (.int .i64 (8))
   go_upto_region 7 with fail
   generalize (w5.setCell ⟨w1.heap.size,0,none⟩ (.int .i64 (8)))=w6 at *;obtain ⟨u0,u1,_,_⟩:=bt6.two;obtain ⟨q0,q1,f0,f1⟩:=br6.two;go_wp2_with fail;refine bodyPost_ret (by simp [results,Tryz.results64,go_sem,set1a br6,set2b br6];try rfl) rfl ?_;exact ⟨_,_,rfl,by omega,by omega,by omega,by omega,⟨_,by omega,by omega,(hr6.apart (by simp;omega) (by simp;omega) _).apart (by simp;omega) (by simp;omega) _⟩,(x6.setNew (by simp) _).setNew (by simp) _⟩
 ·have hkb:(k==0)=false:=by simpa using hk
  by_cases hk1':k=1
  ·subst hk1';go_wp2_with fail;have hr4:=hr3.keepb (bAz (Below.refl _ _) (.cells #[.int .i64 (-1), .int .i64 8] 3));have bl4:Bk (w3.alloc (.cells #[.int .i64 (-1), .int .i64 8] 3)) w3.heap.size #[.int .i64 (-1), .int .i64 8] 3:=Bk.new _ _ rfl;have br4:=br3.alloc (.cells #[.int .i64 (-1), .int .i64 8] 3);have bt4:=bt3.alloc (.cells #[.int .i64 (-1), .int .i64 8] 3);have x4:=x3.alloc (.cells #[.int .i64 (-1), .int .i64 8] 3);have hz3:=hx3.size;simp only [World.size_alloc] at hz3;refine (pA hr4 (by omega) (by omega) _ (by omega) (by omega)).mono ?_;rintro e w5 ⟨j,rfl,hj0,hj1,hr5,hx5⟩;have br5:=br4.keepx hx5 (by omega);have bt5:=bt4.keepx hx5 (by omega);have bl5:=bl4.keepx hx5 (by omega);have x5:=x4.trans hx5;obtain ⟨l0,l1,_,_⟩:=bl5.two;obtain ⟨t0,t1,ft0,ft1⟩:=bt5.two
   rcases (show j=0\/j=1 by omega) with rfl|rfl
   ·have bt6:=bt5.set 1 (.int .i64 (-1));have br6:=br5.apart (p:=⟨w1.heap.size,1,none⟩) (by simp;omega) (.int .i64 (-1));have hr6:=hr5.apart (q:=⟨w1.heap.size,1,none⟩) (by simp;omega) (by simp;omega) (.int .i64 (-1));have x6:=x5.setNew (p:=⟨w1.heap.size,1,none⟩) (by simp;omega) (.int .i64 (-1))
    go_upto_region 7 with fail
    generalize (w5.setCell ⟨w1.heap.size,1,none⟩ (.int .i64 (-1)))=w6 at *;obtain ⟨u0,u1,_,_⟩:=bt6.two;obtain ⟨q0,q1,f0,f1⟩:=br6.two;go_wp2_with fail;refine bodyPost_ret (by simp [results,Tryz.results64,go_sem,set1a br6,set2b br6];try rfl) rfl ?_;exact ⟨_,_,rfl,by omega,by omega,by omega,by omega,⟨_,by omega,by omega,(hr6.apart (by simp;omega) (by simp;omega) _).apart (by simp;omega) (by simp;omega) _⟩,(x6.setNew (by simp) _).setNew (by simp) _⟩
   ·have bt6:=bt5.set 1 (.int .i64 (8));have br6:=br5.apart (p:=⟨w1.heap.size,1,none⟩) (by simp;omega) (.int .i64 (8));have hr6:=hr5.apart (q:=⟨w1.heap.size,1,none⟩) (by simp;omega) (by simp;omega) (.int .i64 (8));have x6:=x5.setNew (p:=⟨w1.heap.size,1,none⟩) (by simp;omega) (.int .i64 (8))
    go_upto_region 7 with fail
    generalize (w5.setCell ⟨w1.heap.size,1,none⟩ (.int .i64 (8)))=w6 at *;obtain ⟨u0,u1,_,_⟩:=bt6.two;obtain ⟨q0,q1,f0,f1⟩:=br6.two;go_wp2_with fail;refine bodyPost_ret (by simp [results,Tryz.results64,go_sem,set1a br6,set2b br6];try rfl) rfl ?_;exact ⟨_,_,rfl,by omega,by omega,by omega,by omega,⟨_,by omega,by omega,(hr6.apart (by simp;omega) (by simp;omega) _).apart (by simp;omega) (by simp;omega) _⟩,(x6.setNew (by simp) _).setNew (by simp) _⟩
  ·have hkb1:(k==1)=false:=by simpa using hk1'
   obtain ⟨q0,q1,f0,f1⟩:=br3.two;obtain ⟨t0,t1,_,_⟩:=bt3.two;go_wp2_with fail;refine bodyPost_ret (by simp [results,Tryz.results64,go_sem,set1a br3,set2b br3];try rfl) rfl ?_;exact ⟨a,b,rfl,by omega,by omega,by omega,by omega,⟨_,by omega,by omega,(hr3.apart (by simp;omega) (by simp;omega) _).apart (by simp;omega) (by simp;omega) _⟩,(x3.setNew (by simp) _).setNew (by simp) _⟩
end Go.Proofs.YtbdpcngcbnoioaaGreatDoor
