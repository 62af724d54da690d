import Derived.Test.YtbdpcngcbnoioaaGreatDoorGa4
import Derived.LaidEql
import Derived.Stop.Asserts
import Derived.RowKitTokens
import Derived.Test.YtbdpcngcbnoioaaGreatDoorIta
import Derived.Deep.AppendLies
import Derived.LoopTactic
import Derived.Deep.DeepMust
set_option maxRecDepth 100000
set_option maxHeartbeats 16000000
namespace Go.Proofs.YtbdpcngcbnoioaaGreatDoor
open Go.RowKit
inductive PT where
 | n0 (k n:Int)
 | n1 (k n:Int) (a:PT)
 | n2 (k n:Int) (a b:PT)
def PT.k:PT->Int
 | .n0 k _=>k
 | .n1 k _ _=>k
 | .n2 k _ _ _=>k
def PT.n:PT->Int
 | .n0 _ n=>n
 | .n1 _ n _=>n
 | .n2 _ n _ _=>n
def PT.len:PT->Nat
 | .n0 _ _=>0
 | .n1 _ _ _=>1
 | .n2 _ _ _ _=>2
def PT.kid:PT->Nat->PT
 | .n1 _ _ a,_=>a
 | .n2 _ _ a _,0=>a
 | .n2 _ _ _ b,_=>b
 | t,_=>t
def PT.sm:PT->Prop
 | .n0 _ n=>0<=n/\n<=99
 | .n1 _ n a=>(0<=n/\n<=99)/\a.sm
 | .n2 _ n a b=>(0<=n/\n<=99)/\a.sm/\b.sm
theorem PT.sm_n {t:PT} (h:t.sm):0<=t.n/\t.n<=99:=by
 cases t
 ·exact h
 ·exact h.1
 ·exact h.1
theorem PT.sm_kid {t:PT} (h:t.sm) {i:Nat} (hi:i<t.len):(t.kid i).sm:=by
 cases t with
 | n0 k n=>simp [PT.len] at hi
 | n1 k n a=>exact h.2
 | n2 k n a b =>
  cases i with
  | zero=>exact h.2.1
  | succ i=>exact h.2.2
def KdS (B:Nat) (w:World):PT->Value->Prop
 | .n0 _ _,s=>∃ a c,s= .slice a 0 c
 | .n1 _ _ x,s=>∃ g off c sx,s= .slice (some ⟨g,off,none⟩) 1 c/\B<=g/\w.cell? ⟨g,off,none⟩=some (.int .i64 x.k)/\w.cell? ⟨g,off+1,none⟩=some (.int .i64 x.n)/\w.cell? ⟨g,off+2,none⟩=some sx/\KdS B w x sx
 | .n2 _ _ x y,s=>∃ g off c sx sy,s= .slice (some ⟨g,off,none⟩) 2 c/\B<=g/\w.cell? ⟨g,off,none⟩=some (.int .i64 x.k)/\w.cell? ⟨g,off+1,none⟩=some (.int .i64 x.n)/\w.cell? ⟨g,off+2,none⟩=some sx/\w.cell? ⟨g,off+3,none⟩=some (.int .i64 y.k)/\w.cell? ⟨g,off+4,none⟩=some (.int .i64 y.n)/\w.cell? ⟨g,off+5,none⟩=some sy/\KdS B w x sx/\KdS B w y sy
theorem KdS.sl {B:Nat} {w:World} {t:PT} {s:Value} (h:KdS B w t s):∃ a c,s= .slice a t.len c:=by
 cases t with
 | n0 k n=>obtain ⟨a,c,rfl⟩:=h;exact ⟨_,_,rfl⟩
 | n1 k n x=>obtain ⟨g,off,c,sx,rfl,_⟩:=h;exact ⟨_,_,rfl⟩
 | n2 k n x y=>obtain ⟨g,off,c,sx,sy,rfl,_⟩:=h;exact ⟨_,_,rfl⟩
theorem KdS.at {B:Nat} {w:World} {t:PT} {a:Option Addr} {n c:Nat} (h:KdS B w t (.slice a n c)) {i:Nat} (hi:i<t.len) :
  ∃ g off sx,a=some ⟨g,off,none⟩/\g<w.heap.size/\w.cell? ⟨g,off+i*3,none⟩=some (.int .i64 (t.kid i).k)/\w.cell? ⟨g,off+i*3+1,none⟩=some (.int .i64 (t.kid i).n)/\w.cell? ⟨g,off+i*3+2,none⟩=some sx/\KdS B w (t.kid i) sx/\(∃ b m d,sx= .slice b m d):=by
 cases t with
 | n0 k n=>simp [PT.len] at hi
 | n1 k n x =>
  obtain ⟨g,off,c,sx,e,_,h1,h2,h3,h4⟩:=h;obtain rfl:i=0:=by simp [PT.len] at hi;exact hi
  cases e;obtain ⟨b,d,e2⟩:=h4.sl;exact ⟨g,off,sx,rfl,lC h1,by simpa [PT.kid] using h1,by simpa [PT.kid] using h2,by simpa using h3,h4,_,_,_,e2⟩
 | n2 k n x y =>
  obtain ⟨g,off,c,sx,sy,e,_,h1,h2,h3,h4,h5,h6,h7,h8⟩:=h;cases e;cases i with
  | zero =>
   obtain ⟨b,d,e2⟩:=h7.sl;exact ⟨g,off,sx,rfl,lC h1,by simpa [PT.kid] using h1,by simpa [PT.kid] using h2,by simpa using h3,h7,_,_,_,e2⟩
  | succ i =>
   obtain rfl:i=0:=by simp [PT.len] at hi;omega
   obtain ⟨b,d,e2⟩:=h8.sl;exact ⟨g,off,sy,rfl,lC h1,by simpa [PT.kid] using h4,by simpa [PT.kid] using h5,by simpa using h6,h8,_,_,_,e2⟩
theorem KdS.keep {B:Nat} {w w':World} (hb:Below w.heap.size w w'):∀ {t:PT} {s:Value},KdS B w t s->KdS B w' t s
 | .n0 _ _,_,h=>h
 | .n1 _ _ _,_,⟨g,off,c,sx,e,hg,h1,h2,h3,h4⟩=>⟨g,off,c,sx,e,hg,cB hb h1,cB hb h2,cB hb h3,KdS.keep hb h4⟩
 | .n2 _ _ _ _,_,⟨g,off,c,sx,sy,e,hg,h1,h2,h3,h4,h5,h6,h7,h8⟩=>⟨g,off,c,sx,sy,e,hg,cB hb h1,cB hb h2,cB hb h3,cB hb h4,cB hb h5,cB hb h6,KdS.keep hb h7,KdS.keep hb h8⟩
abbrev pl (k n:Int) (s:Value):Value:= .agg #[.int .i64 k, .int .i64 n,s]
def kidN (k:Int):Int:=if k=1 then 0 else if k=2 then 1 else if k=3 then 2 else if k=4 then 1 else if k=5 then 2 else if k=6 then 1 else -1
def numLo (k:Int):Int:=if k=2 then 1 else if k=6 then 1 else 0
def numHi (k:Int):Int:=if k=1 then 1 else if k=2 then 7 else if k=6 then 3 else 0
def hereB (t:PT):Bool:=inB t.k 1 6&&decide ((t.len:Int)=kidN t.k)&&inB t.n (numLo t.k) (numHi t.k)
def pokB:PT->Nat->Bool
 | _,0=>false
 | .n0 k n,_+1=>hereB (.n0 k n)
 | .n1 k n a,d+1=>hereB (.n1 k n a)&&pokB a d
 | .n2 k n a b,d+1=>hereB (.n2 k n a b)&&pokB a d&&pokB b d
theorem pok_zero (t:PT):pokB t 0=false:=by cases t<;>rfl
theorem pok_here {t:PT} {d:Nat} (h:hereB t=false):pokB t (d+1)=false:=by
 cases t<;>simp [pokB,h]
theorem pok_kid {t:PT} {d i:Nat} (hi:i<t.len) (h:pokB (t.kid i) d=false):pokB t (d+1)=false:=by
 cases t with
 | n0 k n=>simp [PT.len] at hi
 | n1 k n a=>simp only [PT.kid] at h;simp [pokB,h]
 | n2 k n a b =>
  cases i with
  | zero=>simp only [PT.kid] at h;simp [pokB,h]
  | succ i=>simp only [PT.kid] at h;simp [pokB,h]
theorem pok_yes {t:PT} {d:Nat} (h:hereB t=true) (hk:∀ i,i<t.len->pokB (t.kid i) d=true):pokB t (d+1)=true:=by
 cases t with
 | n0 k n=>simpa [pokB] using h
 | n1 k n a=>have:=hk 0 (by simp [PT.len]);simp only [PT.kid] at this;simp [pokB,h,this]
 | n2 k n a b =>
  have h0:=hk 0 (by simp [PT.len]);have h1:=hk 1 (by simp [PT.len]);simp only [PT.kid] at h0 h1;simp [pokB,h,h0,h1]
theorem pok_parts {t:PT} {d:Nat} (h:pokB t (d+1)=true):hereB t=true/\∀ i,i<t.len->pokB (t.kid i) d=true:=by
 cases t with
 | n0 k n=>exact ⟨by simpa [pokB] using h,fun i hi=>by simp [PT.len] at hi⟩
 | n1 k n a =>
  simp only [pokB,Bool.and_eq_true] at h;exact ⟨h.1,fun i _=>h.2⟩
 | n2 k n a b =>
  simp only [pokB,Bool.and_eq_true] at h;refine ⟨h.1.1,fun i _=>?_⟩;cases i
  ·exact h.1.2
  ·exact h.2
open Go.Extern.Stop Go.Stop Go.Extern
theorem esTypeOf (v:Value) (w:World):(Extern.ReflectliteType.typeOf #[.iface 327 v]).run Tryz.prog w= .ok (.iface 261 (.agg #[.pointer (some ⟨4,327,none⟩)])) w:=by kernel_rfl
theorem esComparable (w:World):((Extern.ReflectliteType.method fun t=>do Go.Extern.Rtype.noPackHeld "Comparable" t;(fun a=>Value.bool a.comparable) <$> typeInfo t) #[.agg #[.pointer (some ⟨4,327,none⟩)]]).run Tryz.prog w= .ok (.bool true) w:=by kernel_rfl
theorem esMethodComparable (v:Value) (w:World):(Go.method 474 261 v "Comparable").run Tryz.prog w= .ok (324,v) w:=by kernel_rfl
theorem esComp:(Tryz.prog.info? 327).map (·.comparable)=some true:=by kernel_rfl
theorem esSize:(Tryz.prog.info? 362).map (·.size)=some 1:=by kernel_rfl
abbrev erV (a:Addr):Value:= .iface 327 (.pointer (some a))
theorem is_same (a:Addr) (w:World) :
  Calls Tryz.prog 139 #[erV a,erV a] w fun e w'=>e= .returned (.bool true)/\w'=w:=by
 obtain ⟨i,hi,hcmp⟩:=Option.map_eq_some_iff.1 esComp;obtain ⟨j,hj,hjs⟩:=Option.map_eq_some_iff.1 esSize;have h8:=@run_callFunc_extern Tryz.prog 192 _ Extern.ReflectliteType.typeOf Tryz.func192 (by kernel_rfl) (by kernel_rfl) (by kernel_rfl) (by kernel_rfl);have h32:=@run_callFunc_extern Tryz.prog 324 _ (Extern.ReflectliteType.method fun t=>do Go.Extern.Rtype.noPackHeld "Comparable" t;pure (.bool (<- typeInfo t).comparable)) Tryz.func324 (by kernel_rfl) (by kernel_rfl) (by kernel_rfl) (by kernel_rfl);have tT:=esTypeOf;have cT:=esComparable;have mR:=esMethodComparable;have heq:=run_eql_iface_ptr_same (P:=Tryz.prog) w a Tryz.underlying163 Tryz.underlying327 hi hcmp hj;go_enter Tryz.func139,Tryz.ntmps139
 go_wp2
 refine wp_loop_rounds 1 ?_;rw [rounds_succ]
 go_wp2
 go_ret;exact ⟨rfl,rfl⟩
theorem is_nil (b:Addr) (w:World) :
  Calls Tryz.prog 139 #[.nilIface,erV b] w fun e w'=>e= .returned (.bool false)/\w'=w:=by
 have hn:=run_eql_iface_nil_left (P:=Tryz.prog) w 327 (.pointer (some b)) Tryz.underlying163;go_enter Tryz.func139,Tryz.ntmps139
 go_wp2
 go_ret;exact ⟨rfl,rfl⟩
open Go.Shelf
theorem dec_two (i:Nat) (h:i<100):(ByteArray.mk (Lib.decDigits i).toArray).size<=2:=by
 show (Lib.decDigits i).toArray.size<=2
 by_cases h1:i<10
 ·rw [Lib.decDigits_one h1];simp
 ·rw [Lib.decDigits_two h1 h];simp
theorem itoa_small {n:Int} (h0:0<=n) (h9:n<=99) (w:World):Calls Tryz.prog 303 #[.int .i64 n] w fun e w'=>(∃ s:ByteArray,e= .returned (.string s)/\s.size<=2)/\w'=w:=by
 obtain ⟨i,rfl⟩:=Int.eq_ofNat_of_zero_le h0;refine (Any.strconv_Itoa_small itoU i (by omega) w).mono ?_;rintro e w' ⟨rfl,rfl⟩;exact ⟨⟨_,rfl,dec_two i (by omega)⟩,rfl⟩
abbrev shV (s:ByteArray) (a b c:Int):Value:= .agg #[.string s, .int .i64 a, .int .i64 b, .int .i64 c]
def ShapeOf (k:Int) (F:Nat):Prop:=∀ (n:Int) (w:World),0<=n->n<=99->Calls Tryz.prog F #[.int .i64 n] w fun e w'=>(∃ s,e= .returned (shV s (kidN k) (numLo k) (numHi k)))/\Below w.heap.size w w'
theorem shape_in:ShapeOf 1 302:=fun n w h0 h9=>by
 go_enter Tryz.func302,Tryz.ntmps302;go_wp2_with fail;refine (itoa_small h0 h9 _).mono ?_;rintro e w1 ⟨⟨s,rfl,hs⟩,rfl⟩;have hs2:¬ (9223372036854775807<2+s.size):=by omega
 go_wp2_with fail;refine bodyPost_ret (by simp [results,Tryz.results302,go_sem];try rfl) rfl ?_;exact ⟨⟨_,rfl⟩,bAz (Below.refl _ _) _⟩
theorem shape_each:ShapeOf 2 316:=fun n w h0 h9=>by
 go_enter Tryz.func316,Tryz.ntmps316;go_wp2_with fail;refine (itoa_small h0 h9 _).mono ?_;rintro e w1 ⟨⟨s,rfl,hs⟩,rfl⟩;have hs2:¬ (9223372036854775807<4+s.size):=by omega
 go_wp2_with fail;refine bodyPost_ret (by simp [results,Tryz.results316,go_sem];try rfl) rfl ?_;exact ⟨⟨_,rfl⟩,bAz (Below.refl _ _) _⟩
theorem shape_sum:ShapeOf 6 320:=fun n w h0 h9=>by
 go_enter Tryz.func320,Tryz.ntmps320;go_wp2_with fail;refine (itoa_small h0 h9 _).mono ?_;rintro e w1 ⟨⟨s,rfl,hs⟩,rfl⟩;have hs2:¬ (9223372036854775807<3+s.size):=by omega
 go_wp2_with fail;refine bodyPost_ret (by simp [results,Tryz.results320,go_sem];try rfl) rfl ?_;exact ⟨⟨_,rfl⟩,bAz (Below.refl _ _) _⟩
theorem shape_both:ShapeOf 3 317:=fun n w _ _=>by
 go_enter Tryz.func317,Tryz.ntmps317;go_wp2_with fail;refine bodyPost_ret (by simp [results,Tryz.results317,go_sem];try rfl) rfl ?_;exact ⟨⟨_,rfl⟩,bAz (Below.refl _ _) _⟩
theorem shape_less:ShapeOf 4 318:=fun n w _ _=>by
 go_enter Tryz.func318,Tryz.ntmps318;go_wp2_with fail;refine bodyPost_ret (by simp [results,Tryz.results318,go_sem];try rfl) rfl ?_;exact ⟨⟨_,rfl⟩,bAz (Below.refl _ _) _⟩
theorem shape_join:ShapeOf 5 319:=fun n w _ _=>by
 go_enter Tryz.func319,Tryz.ntmps319;go_wp2_with fail;refine bodyPost_ret (by simp [results,Tryz.results319,go_sem];try rfl) rfl ?_;exact ⟨⟨_,rfl⟩,bAz (Below.refl _ _) _⟩
structure KindIs (k:Int) (T F:Nat):Prop where
 shape:ShapeOf k F
 meth:∀ (v:Value) (w:World),(Go.method 474 T v "loop.example/tideline/impl.shape").run Tryz.prog w= .ok (F,v) w
 enters:∀ args w,(callFunc F args).run Tryz.prog w= .ok (.enter F args) w
 kind:∀ (n:Int) (s:Value) (w:World),Calls Tryz.prog 191 #[pl k n s] w fun e w'=>e= .returned (.tuple #[.iface T (.int .i64 n), .nilIface])/\Below w.heap.size w w'
theorem pl_box (w:World) (k n:Int) (s:Value):Bk (w.alloc (.cells #[.int .i64 k, .int .i64 n,s] 25)) w.heap.size #[.int .i64 k, .int .i64 n,s] 25:=Bk.new _ _ rfl
theorem Bk.three' {w:World} {k:Nat} {x0 x1 x2:Value} {t:TypeId} (h:Bk w k #[x0,x1,x2] t):w.cell? ⟨k,0,none⟩=some x0/\w.cell? ⟨k,1,none⟩=some x1/\w.cell? ⟨k,2,none⟩=some x2:=by
 unfold Bk at h;simp [World.cell?,h]
theorem kind_in:KindIs 1 172 302 where
 shape:=shape_in
 meth:=fun v w=>by kernel_rfl
 enters:=enters_of Tryz.func302 (by kernel_rfl) rfl
 kind:=fun n s w=>by
  obtain ⟨x0,x1,x2⟩:=(pl_box w 1 n s).three';go_enter Tryz.func191,Tryz.ntmps191;go_wp2_with fail;refine bodyPost_ret (by simp [results,Tryz.results191,go_sem];try rfl) rfl ?_;exact ⟨rfl,bAz (Below.refl _ _) _⟩
theorem kind_each:KindIs 2 173 316 where
 shape:=shape_each
 meth:=fun v w=>by kernel_rfl
 enters:=enters_of Tryz.func316 (by kernel_rfl) rfl
 kind:=fun n s w=>by
  obtain ⟨x0,x1,x2⟩:=(pl_box w 2 n s).three';go_enter Tryz.func191,Tryz.ntmps191;go_wp2_with fail;refine bodyPost_ret (by simp [results,Tryz.results191,go_sem];try rfl) rfl ?_;exact ⟨rfl,bAz (Below.refl _ _) _⟩
theorem kind_both:KindIs 3 175 317 where
 shape:=shape_both
 meth:=fun v w=>by kernel_rfl
 enters:=enters_of Tryz.func317 (by kernel_rfl) rfl
 kind:=fun n s w=>by
  obtain ⟨x0,x1,x2⟩:=(pl_box w 3 n s).three';go_enter Tryz.func191,Tryz.ntmps191;go_wp2_with fail;refine bodyPost_ret (by simp [results,Tryz.results191,go_sem];try rfl) rfl ?_;exact ⟨rfl,bAz (Below.refl _ _) _⟩
theorem kind_less:KindIs 4 177 318 where
 shape:=shape_less
 meth:=fun v w=>by kernel_rfl
 enters:=enters_of Tryz.func318 (by kernel_rfl) rfl
 kind:=fun n s w=>by
  obtain ⟨x0,x1,x2⟩:=(pl_box w 4 n s).three';go_enter Tryz.func191,Tryz.ntmps191;go_wp2_with fail;refine bodyPost_ret (by simp [results,Tryz.results191,go_sem];try rfl) rfl ?_;exact ⟨rfl,bAz (Below.refl _ _) _⟩
theorem kind_join:KindIs 5 178 319 where
 shape:=shape_join
 meth:=fun v w=>by kernel_rfl
 enters:=enters_of Tryz.func319 (by kernel_rfl) rfl
 kind:=fun n s w=>by
  obtain ⟨x0,x1,x2⟩:=(pl_box w 5 n s).three';go_enter Tryz.func191,Tryz.ntmps191;go_wp2_with fail;refine bodyPost_ret (by simp [results,Tryz.results191,go_sem];try rfl) rfl ?_;exact ⟨rfl,bAz (Below.refl _ _) _⟩
theorem kind_sum:KindIs 6 180 320 where
 shape:=shape_sum
 meth:=fun v w=>by kernel_rfl
 enters:=enters_of Tryz.func320 (by kernel_rfl) rfl
 kind:=fun n s w=>by
  obtain ⟨x0,x1,x2⟩:=(pl_box w 6 n s).three';go_enter Tryz.func191,Tryz.ntmps191;go_wp2_with fail;refine bodyPost_ret (by simp [results,Tryz.results191,go_sem];try rfl) rfl ?_;exact ⟨rfl,bAz (Below.refl _ _) _⟩
theorem kind_none (ea:Addr) (k n:Int) (s:Value) (w:World) (hk:k<1\/6<k) (hg:w.cell? ⟨0,0,none⟩=some (erV ea)):Calls Tryz.prog 191 #[pl k n s] w fun e w'=>e= .returned (.tuple #[.nilIface,erV ea])/\Below w.heap.size w w':=by
 obtain ⟨x0,x1,x2⟩:=(pl_box w k n s).three';have n1:(k==1)=false:=by simp;omega
 have n2:(k==2)=false:=by simp;omega
 have n3:(k==3)=false:=by simp;omega
 have n4:(k==4)=false:=by simp;omega
 have n5:(k==5)=false:=by simp;omega
 have n6:(k==6)=false:=by simp;omega
 have hg1:=cB (bAz (Below.refl w.heap.size w) (.cells #[.int .i64 k, .int .i64 n,s] 25)) hg;go_enter Tryz.func191,Tryz.ntmps191;go_wp2_with fail
 go_quiet (fail)
 have hg2:=cB (bDz (bAz (Below.refl w.heap.size w) (.cells #[.int .i64 k, .int .i64 n,s] 25)) nq) hg;go_wp2_with fail;refine bodyPost_ret (by simp [results,Tryz.results191,go_sem];try rfl) rfl ?_;exact ⟨rfl,bDz (bAz (Below.refl _ _) _) _⟩
theorem Bk.four' {w:World} {k:Nat} {x0 x1 x2 x3:Value} {t:TypeId} (h:Bk w k #[x0,x1,x2,x3] t):w.cell? ⟨k,0,none⟩=some x0/\w.cell? ⟨k,1,none⟩=some x1/\w.cell? ⟨k,2,none⟩=some x2/\w.cell? ⟨k,3,none⟩=some x3:=by
 unfold Bk at h;simp [World.cell?,h]
abbrev okZ:Value:= .agg #[.nilIface, .slice none 0 0]
theorem okPlan_bad (ea:Addr) {T F:Nat} {t:PT} {B:Nat} {s:Value} {w:World} {deep:Int} (H:KindIs t.k T F) (hn:0<=t.n/\t.n<=99) (hs:KdS B w t s) (hg:w.cell? ⟨0,0,none⟩=some (erV ea))
  (hbad:4<deep\/(¬ 4<deep/\¬ (t.len:Int)=kidN t.k)\/(¬ 4<deep/\(t.len:Int)=kidN t.k/\t.n<numLo t.k)\/(¬ 4<deep/\(t.len:Int)=kidN t.k/\¬ t.n<numLo t.k/\numHi t.k<t.n)) :
  Calls Tryz.prog 138 #[pl t.k t.n s, .int .i64 deep] w fun e w'=>e= .returned (.tuple #[okZ,erV ea])/\Below w.heap.size w w':=by
 obtain ⟨a,c,rfl⟩:=hs.sl;have HS:=(show Hid (ShapeOf t.k F) from H.shape);have HK:=(show Hid _ from H.kind);have hme:=H.meth;have hen:=H.enters;have bP:Bk ((w.alloc (.cells #[.int .i64 t.k, .int .i64 t.n, .slice a t.len c] 25)).alloc (.cells #[.nilIface, .slice none 0 0] 161)) w.heap.size #[.int .i64 t.k, .int .i64 t.n, .slice a t.len c] 25:=(Bk.new _ _ rfl).alloc _;have bR:Bk ((w.alloc (.cells #[.int .i64 t.k, .int .i64 t.n, .slice a t.len c] 25)).alloc (.cells #[.nilIface, .slice none 0 0] 161)) (w.heap.size+1) #[.nilIface, .slice none 0 0] 161:=Bk.new _ _ (by simp);have hb0:Below w.heap.size w ((w.alloc (.cells #[.int .i64 t.k, .int .i64 t.n, .slice a t.len c] 25)).alloc (.cells #[.nilIface, .slice none 0 0] 161)):=bAz (bAz (Below.refl _ _) _) _;clear hs H;obtain ⟨x0,x1,x2⟩:=bP.three';go_enter Tryz.func138,Tryz.ntmps138;go_wp2_with fail;generalize ((w.alloc (.cells #[.int .i64 t.k, .int .i64 t.n, .slice a t.len c] 25)).alloc (.cells #[.nilIface, .slice none 0 0] 161))=W0 at *;refine (HK.out t.n _ _).mono ?_;rintro e w1 ⟨rfl,hb1⟩;have bP1:=bP.keep hb1;have bR1:=bR.keep hb1;have hbw1:=bSz hb0 hb1;clear x0 x1 x2 bP bR hb0 hb1;go_wp2_with fail;refine (HS.out t.n _ hn.1 hn.2).mono ?_;rintro e w2 ⟨⟨sx,rfl⟩,hb2⟩;have bS:Bk (w2.alloc (.cells #[.string sx, .int .i64 (kidN t.k), .int .i64 (numLo t.k), .int .i64 (numHi t.k)] 217)) w2.heap.size #[.string sx, .int .i64 (kidN t.k), .int .i64 (numLo t.k), .int .i64 (numHi t.k)] 217:=Bk.new _ _ rfl;have hbS:Below w2.heap.size w2 (w2.alloc (.cells #[.string sx, .int .i64 (kidN t.k), .int .i64 (numLo t.k), .int .i64 (numHi t.k)] 217)):=bAz (Below.refl _ _) _;have bP2:=(bP1.keep hb2).keep hbS;have bR2:=(bR1.keep hb2).keep hbS;have hbw2:=bSz (bSz hbw1 hb2) hbS;have hg2:=cB hbw2 hg;clear hb2 hbS bP1 bR1 hbw1 hme hen
 go_upto_region 5 with fail
 generalize (w2.alloc (.cells #[.string sx, .int .i64 (kidN t.k), .int .i64 (numLo t.k), .int .i64 (numHi t.k)] 217))=W3 at *;generalize w2.heap.size=sb at *;obtain ⟨x0,x1,x2⟩:=bP2.three';obtain ⟨s0,s1,s2,s3⟩:=bS.four';obtain ⟨r0,r1,f0,f1⟩:=bR2.two;have bo:=(bR2.set01 .nilIface (.slice none 0 0)).drew;have hbo:Below w.heap.size w ((W3.setCell ⟨w.heap.size+1,0,none⟩ .nilIface).setCell ⟨w.heap.size+1,1,none⟩ (.slice none 0 0)).drew:=((hbw2.setCell (by simp) _).setCell (by simp) _).drew;obtain ⟨y0,y1,_,_⟩:=bo.two;have hy0:W3.drew.cell? ⟨0,0,none⟩=some (erV ea):=hg2;clear bP2 bS bR2 bo HS HK
 rcases hbad with h1|⟨h1,h2⟩|⟨h1,h2,h3⟩|⟨h1,h2,h3,h4⟩
 all_goals
  go_wp2_with fail
  go_region
  go_wp2_with fail;refine bodyPost_ret (v:= .tuple #[okZ,erV ea]) (by simp [results,Tryz.results138,go_sem,y0,y1];try rfl) rfl ?_;exact ⟨rfl,hbo⟩
def kT (k:Int):Nat:=if k=1 then 172 else if k=2 then 173 else if k=3 then 175 else if k=4 then 177 else if k=5 then 178 else 180
theorem kind_of {k:Int} (h:inB k 1 6=true):∃ F,KindIs k (kT k) F:=by
 have h2:1<=k/\k<=6:=by simpa [inB] using h
 have:k=1\/k=2\/k=3\/k=4\/k=5\/k=6:=by omega
 rcases this with rfl|rfl|rfl|rfl|rfl|rfl
 ·exact ⟨_,kind_in⟩
 ·exact ⟨_,kind_each⟩
 ·exact ⟨_,kind_both⟩
 ·exact ⟨_,kind_less⟩
 ·exact ⟨_,kind_join⟩
 ·exact ⟨_,kind_sum⟩
abbrev kiV (t:PT):Value:= .iface (kT t.k) (.int .i64 t.n)
def OkS (p:Nat->Prop) (w:World):PT->Value->Prop
 | .n0 _ _,s=>∃ a c,s= .slice a 0 c
 | .n1 _ _ x,s=>∃ g c sx,s= .slice (some ⟨g,0,none⟩) 1 c/\p g/\w.cell? ⟨g,0,none⟩=some (kiV x)/\w.cell? ⟨g,1,none⟩=some sx/\OkS p w x sx
 | .n2 _ _ x y,s=>∃ g c sx sy,s= .slice (some ⟨g,0,none⟩) 2 c/\p g/\w.cell? ⟨g,0,none⟩=some (kiV x)/\w.cell? ⟨g,1,none⟩=some sx/\w.cell? ⟨g,2,none⟩=some (kiV y)/\w.cell? ⟨g,3,none⟩=some sy/\OkS p w x sx/\OkS p w y sy
theorem OkS.sl {p:Nat->Prop} {w:World} {t:PT} {s:Value} (h:OkS p w t s):∃ a c,s= .slice a t.len c:=by
 cases t with
 | n0 k n=>obtain ⟨a,c,rfl⟩:=h;exact ⟨_,_,rfl⟩
 | n1 k n x=>obtain ⟨g,c,sx,rfl,_⟩:=h;exact ⟨_,_,rfl⟩
 | n2 k n x y=>obtain ⟨g,c,sx,sy,rfl,_⟩:=h;exact ⟨_,_,rfl⟩
theorem cell_at {w w':World} {g i:Nat} {v:Value} (e:w'.heap[g]?=w.heap[g]?) (h:w.cell? ⟨g,i,none⟩=some v):w'.cell? ⟨g,i,none⟩=some v:=by
 rw [World.cell?_of_block (w:=w) e];exact h
theorem OkS.move {p q:Nat->Prop} {w w':World} (H:∀ g,p g->g<w.heap.size->q g/\w'.heap[g]?=w.heap[g]?):∀ {t:PT} {s:Value},OkS p w t s->OkS q w' t s
 | .n0 _ _,_,h=>h
 | .n1 _ _ _,_,⟨g,c,sx,e,hp,h1,h2,h3⟩=>⟨g,c,sx,e,(H g hp (lC h1)).1,cell_at (H g hp (lC h1)).2 h1,cell_at (H g hp (lC h1)).2 h2,OkS.move H h3⟩
 | .n2 _ _ _ _,_,⟨g,c,sx,sy,e,hp,h1,h2,h3,h4,h5,h6⟩=>⟨g,c,sx,sy,e,(H g hp (lC h1)).1,cell_at (H g hp (lC h1)).2 h1,cell_at (H g hp (lC h1)).2 h2,cell_at (H g hp (lC h1)).2 h3,cell_at (H g hp (lC h1)).2 h4,OkS.move H h5,OkS.move H h6⟩
abbrev psC (ps:List (Value×Value)):List Value:=ps.flatMap fun p=>[p.1,p.2]
theorem okS_of {p q:Nat->Prop} {w:World} {B:Nat} {t:PT} {sl:Value} {ps:List (Value×Value)} (ho:w.ownsRow B 161 2 sl t.len (psC ps)) (hl:ps.length=t.len)
  (hk:∀ j a s,ps[j]?=some (a,s)->a=kiV (t.kid j)/\OkS p w (t.kid j) s) (hq:∀ g,B<=g->q g) (hpq:∀ g,p g->q g):OkS q w t sl:=by
 have hm:∀ {x:PT} {s:Value},OkS p w x s->OkS q w x s:=OkS.move fun g h _=>⟨hpq g h,rfl⟩;have hh:=ho;obtain ⟨_,⟨rfl,h0⟩|⟨g,cap,cur,rfl,hg,_⟩⟩:=ho
 ·cases t with
  | n0 k n=>exact ⟨_,_,rfl⟩
  | n1 k n x=>simp [PT.len] at h0
  | n2 k n x y=>simp [PT.len] at h0
 ·have ha:=fun i (hi:i<t.len*2)=>hh.cellAt i hi;cases t with
  | n0 k n=>exact ⟨_,_,rfl⟩
  | n1 k n x =>
   obtain ⟨⟨a,s⟩,rfl⟩:∃ z,ps=[z]:=by
    match ps,hl with
    | [z],_=>exact ⟨z,rfl⟩
   obtain ⟨e,ok⟩:=hk 0 a s rfl;refine ⟨g,cap,s,rfl,hq g hg,?_,?_,hm ok⟩
   ·rw [ha 0 (by simp [PT.len])];simp [e,PT.kid]
   ·rw [ha 1 (by simp [PT.len])];simp
  | n2 k n x y =>
   obtain ⟨⟨a,s⟩,⟨b,s'⟩,rfl⟩:∃ z z',ps=[z,z']:=by
    match ps,hl with
    | [z,z'],_=>exact ⟨z,z',rfl⟩
   obtain ⟨e,ok⟩:=hk 0 a s rfl;obtain ⟨e',ok'⟩:=hk 1 b s' rfl;refine ⟨g,cap,s,s',rfl,hq g hg,?_,?_,?_,?_,hm ok,hm ok'⟩
   ·rw [ha 0 (by simp [PT.len])];simp [e,PT.kid]
   ·rw [ha 1 (by simp [PT.len])];simp
   ·rw [ha 2 (by simp [PT.len])];simp [e',PT.kid]
   ·rw [ha 3 (by simp [PT.len])];simp
theorem pl_info {P:Program} {t:TypeId} {z:Value} {a b:Nat} (h:(P.info? t).map (fun i=>(i.zero,i.size,i.bytes))=some (some z,a,b)):∃ i,P.info? t=some i/\i.zero=some z/\i.size=a/\i.bytes=b:=by
 obtain ⟨i,hi,he⟩:=Option.map_eq_some_iff.1 h;simp only [Prod.mk.injEq] at he;exact ⟨i,hi,he.1,he.2.1,he.2.2⟩
theorem infoO:(Tryz.prog.info? 161).map (fun i=>(i.zero,i.size,i.bytes))=some (some (.agg #[.nilIface, .slice none 0 0]),2,40):=by kernel_rfl
theorem pl_news {w:World} {g:Nat} {x y:Value} {t:TypeId} (h:Bk w g #[x,y] t):∀ j u,[x,y][j]?=some u->w.cell? ((⟨g,0,none⟩:Addr).add j)=some u:=by
 intro j u hj;have e:(⟨g,0,none⟩:Addr).add j=⟨g,j,none⟩:=by simp [Addr.add];exact fun h=>h.symm
 rw [e];unfold Bk at h;simp [World.cell?,h,hj]
section
variable {ops:Array Oper} {rest:List Oper} {o:Oper} {a:Act} {Q:Exit->Act->World->Prop}
theorem appO (w:World) (hgd:o.guard=none) (s x:Operand) (ho:o.op= .call { callee:= .builtin .append,args:=#[s,x],argTypes:=#[159,159] })
  (base:Nat) (v:Value) (ps:List (Value×Value)) (hs:a.eval s=v) (hown:w.ownsRow base 161 2 v ps.length (psC ps)) (g0:Nat) (kv:TypeId) (kn:Value) (b:Option Addr) (n c:Nat) (hx:a.eval x= .slice (some ⟨g0,0,none⟩) 1 1)
  (hc:Bk w g0 #[.iface kv kn, .slice b n c] 161) (hl:ps.length<=2000000) (hbase:base<=w.heap.size)
  (h:∀ g cap w',w'.ownsRow base 161 2 (.slice (some ⟨g,0,none⟩) (ps.length+1) cap) (ps.length+1) (psC (ps++[(.iface kv kn, .slice b n c)]))->w.grownBy w' v.ownBlock->(v.ownBlock=some g\/g=w.heap.size)->g<w'.heap.size->wpList Tryz.prog ops Q rest (a.put o.dst (.slice (some ⟨g,0,none⟩) (ps.length+1) cap)) w') :
  wpList Tryz.prog ops Q (o::rest) a w:=by
 obtain ⟨i0,hi,hz0,hz1,hz2⟩:=pl_info infoO;refine wpList_append_lies w hgd s x 159 ho base 161 i0 _ 2 40 Tryz.underlying159 hi hz0 hz1 hz2 rfl (by decide) v ps.length (psC ps) hs hown ⟨g0,0,none⟩ 1 1 [.iface kv kn, .slice b n c] hx rfl (pl_news hc) (fun u hu=>by simp at hu;rcases hu with rfl|rfl<;>rfl) (by omega) (by unfold maxLen;omega) (by omega) hbase w.heap.size rfl ?_
 intro g cap w' h1 h2 h3 h4;refine h g cap w' ?_ h2 h3 h4
 show w'.ownsRow _ _ _ _ _ (psC _)
 simp only [psC,List.flatMap_append] at h1 ⊢
 simpa using h1
end
theorem okPlan_none (ea:Addr) {k n:Int} {s:Value} (hsl:∃ a m c,s= .slice a m c) {w:World} {deep:Int} (hk:k<1\/6<k) (hg:w.cell? ⟨0,0,none⟩=some (erV ea)) :
  Calls Tryz.prog 138 #[pl k n s, .int .i64 deep] w fun e w'=>e= .returned (.tuple #[okZ,erV ea])/\Below w.heap.size w w':=by
 obtain ⟨a,m,c,rfl⟩:=hsl;have bP:Bk ((w.alloc (.cells #[.int .i64 k, .int .i64 n, .slice a m c] 25)).alloc (.cells #[.nilIface, .slice none 0 0] 161)) w.heap.size #[.int .i64 k, .int .i64 n, .slice a m c] 25:=(Bk.new _ _ rfl).alloc _;have bR:Bk ((w.alloc (.cells #[.int .i64 k, .int .i64 n, .slice a m c] 25)).alloc (.cells #[.nilIface, .slice none 0 0] 161)) (w.heap.size+1) #[.nilIface, .slice none 0 0] 161:=Bk.new _ _ (by simp);have hb0:Below w.heap.size w ((w.alloc (.cells #[.int .i64 k, .int .i64 n, .slice a m c] 25)).alloc (.cells #[.nilIface, .slice none 0 0] 161)):=bAz (bAz (Below.refl _ _) _) _;have hg0:=cB hb0 hg;obtain ⟨x0,x1,x2⟩:=bP.three';go_enter Tryz.func138,Tryz.ntmps138;go_wp2_with fail;generalize ((w.alloc (.cells #[.int .i64 k, .int .i64 n, .slice a m c] 25)).alloc (.cells #[.nilIface, .slice none 0 0] 161))=W0 at *;refine (kind_none ea k n _ _ hk hg0).mono ?_;rintro e w1 ⟨rfl,hb1⟩;have bR1:=bR.keep hb1;have hbw1:=bSz hb0 hb1;clear x0 x1 x2 bP bR hb0 hb1;obtain ⟨r0,r1,f0,f1⟩:=bR1.two;have bo:=(bR1.set01 .nilIface (.slice none 0 0));have hbo:Below w.heap.size w ((w1.setCell ⟨w.heap.size+1,0,none⟩ .nilIface).setCell ⟨w.heap.size+1,1,none⟩ (.slice none 0 0)):=((hbw1.setCell (by simp) _).setCell (by simp) _);obtain ⟨y0,y1,_,_⟩:=bo.two;go_wp2_with fail;refine bodyPost_ret (v:= .tuple #[okZ,erV ea]) (by simp [results,Tryz.results138,go_sem,y0,y1];try rfl) rfl ?_;exact ⟨rfl,hbo⟩
theorem ta11 (n:Int) (w:World):(Instr.typeAssert (.iface 172 (.int .i64 n)) 158 172 true).run Tryz.prog w= .ok (.tuple #[.int .i64 n, .bool true]) w:=by kernel_rfl
theorem ta21 (n:Int) (w:World):(Instr.typeAssert (.iface 173 (.int .i64 n)) 158 172 true).run Tryz.prog w= .ok (.tuple #[.int .i64 0, .bool false]) w:=by kernel_rfl
theorem ta22 (n:Int) (w:World):(Instr.typeAssert (.iface 173 (.int .i64 n)) 158 173 true).run Tryz.prog w= .ok (.tuple #[.int .i64 n, .bool true]) w:=by kernel_rfl
theorem ta31 (n:Int) (w:World):(Instr.typeAssert (.iface 175 (.int .i64 n)) 158 172 true).run Tryz.prog w= .ok (.tuple #[.int .i64 0, .bool false]) w:=by kernel_rfl
theorem ta32 (n:Int) (w:World):(Instr.typeAssert (.iface 175 (.int .i64 n)) 158 173 true).run Tryz.prog w= .ok (.tuple #[.int .i64 0, .bool false]) w:=by kernel_rfl
theorem ta33 (n:Int) (w:World):(Instr.typeAssert (.iface 175 (.int .i64 n)) 158 175 true).run Tryz.prog w= .ok (.tuple #[.int .i64 n, .bool true]) w:=by kernel_rfl
theorem ta41 (n:Int) (w:World):(Instr.typeAssert (.iface 177 (.int .i64 n)) 158 172 true).run Tryz.prog w= .ok (.tuple #[.int .i64 0, .bool false]) w:=by kernel_rfl
theorem ta42 (n:Int) (w:World):(Instr.typeAssert (.iface 177 (.int .i64 n)) 158 173 true).run Tryz.prog w= .ok (.tuple #[.int .i64 0, .bool false]) w:=by kernel_rfl
theorem ta43 (n:Int) (w:World):(Instr.typeAssert (.iface 177 (.int .i64 n)) 158 175 true).run Tryz.prog w= .ok (.tuple #[.int .i64 0, .bool false]) w:=by kernel_rfl
theorem ta44 (n:Int) (w:World):(Instr.typeAssert (.iface 177 (.int .i64 n)) 158 177 true).run Tryz.prog w= .ok (.tuple #[.int .i64 n, .bool true]) w:=by kernel_rfl
theorem ta51 (n:Int) (w:World):(Instr.typeAssert (.iface 178 (.int .i64 n)) 158 172 true).run Tryz.prog w= .ok (.tuple #[.int .i64 0, .bool false]) w:=by kernel_rfl
theorem ta52 (n:Int) (w:World):(Instr.typeAssert (.iface 178 (.int .i64 n)) 158 173 true).run Tryz.prog w= .ok (.tuple #[.int .i64 0, .bool false]) w:=by kernel_rfl
theorem ta53 (n:Int) (w:World):(Instr.typeAssert (.iface 178 (.int .i64 n)) 158 175 true).run Tryz.prog w= .ok (.tuple #[.int .i64 0, .bool false]) w:=by kernel_rfl
theorem ta54 (n:Int) (w:World):(Instr.typeAssert (.iface 178 (.int .i64 n)) 158 177 true).run Tryz.prog w= .ok (.tuple #[.int .i64 0, .bool false]) w:=by kernel_rfl
theorem ta55 (n:Int) (w:World):(Instr.typeAssert (.iface 178 (.int .i64 n)) 158 178 true).run Tryz.prog w= .ok (.tuple #[.int .i64 n, .bool true]) w:=by kernel_rfl
theorem ta61 (n:Int) (w:World):(Instr.typeAssert (.iface 180 (.int .i64 n)) 158 172 true).run Tryz.prog w= .ok (.tuple #[.int .i64 0, .bool false]) w:=by kernel_rfl
theorem ta62 (n:Int) (w:World):(Instr.typeAssert (.iface 180 (.int .i64 n)) 158 173 true).run Tryz.prog w= .ok (.tuple #[.int .i64 0, .bool false]) w:=by kernel_rfl
theorem ta63 (n:Int) (w:World):(Instr.typeAssert (.iface 180 (.int .i64 n)) 158 175 true).run Tryz.prog w= .ok (.tuple #[.int .i64 0, .bool false]) w:=by kernel_rfl
theorem ta64 (n:Int) (w:World):(Instr.typeAssert (.iface 180 (.int .i64 n)) 158 177 true).run Tryz.prog w= .ok (.tuple #[.int .i64 0, .bool false]) w:=by kernel_rfl
theorem ta65 (n:Int) (w:World):(Instr.typeAssert (.iface 180 (.int .i64 n)) 158 178 true).run Tryz.prog w= .ok (.tuple #[.int .i64 0, .bool false]) w:=by kernel_rfl
theorem ta66 (n:Int) (w:World):(Instr.typeAssert (.iface 180 (.int .i64 n)) 158 180 true).run Tryz.prog w= .ok (.tuple #[.int .i64 n, .bool true]) w:=by kernel_rfl
def OkPost (ea:Addr) (t:PT) (d:Nat) (w:World) (e:Ending) (w':World):Prop :=
 ((pokB t d=true/\∃ a n c,e= .returned (.tuple #[.agg #[kiV t, .slice a n c], .nilIface])/\OkS (fun g=>w.heap.size<=g) w' t (.slice a n c))\/(pokB t d=false/\e= .returned (.tuple #[okZ,erV ea])))/\Below w.heap.size w w'
structure OkI (ea:Addr) (t:PT) (d:Nat) (w:World) (b9 k:Nat) (s:Value) (wr:World):Prop where
 le:k<=t.len
 ps:∃ sl ps,ps.length=k/\Bk wr b9 #[kiV t,sl] 161/\wr.ownsRow (b9+1) 161 2 sl k (psC ps)/\(∀ j a x,ps[j]?=some (a,x)->a=kiV (t.kid j)/\OkS (fun g=>b9<g/\sl.ownBlock≠some g) wr (t.kid j) x)
 pok:∀ j,j<k->pokB (t.kid j) d=true
 box:Bk wr (w.heap.size+1) #[.nilIface, .slice none 0 0] 161
 nine:w.heap.size+1<b9
 bel:Below w.heap.size w wr
theorem PT.len_le (t:PT):t.len<=2:=by cases t<;>simp [PT.len]
theorem pl_own_move {w w1:World} {B:Nat} {e:TypeId} {s:Nat} {v:Value} {n:Nat} {xs:List Value} (h:w.ownsRow B e s v n xs) (hb:∀ k,B<=k->k<w.heap.size->w1.heap[k]?=w.heap[k]?):w1.ownsRow B e s v n xs:=by
 obtain ⟨h1,h2⟩:=h;refine ⟨h1,?_⟩
 rcases h2 with h2|⟨g,cap,cur,rfl,hg,hh,r⟩
 ·exact .inl h2
 ·exact .inr ⟨g,cap,cur,rfl,hg,by rw [hb g hg (lt_of_block hh)];exact hh,r⟩
theorem pl_grew {w w':World} {g:Nat} {c:Array Value} {t:TypeId} {row:Option Nat} (h:Bk w g c t) (hg:w.grownBy w' row) (hr:row≠some g):Bk w' g c t:=by
 unfold Bk;rw [hg.block g h.lt (fun e=>hr e.symm)];exact h
theorem okI_step {ea:Addr} {t:PT} {d:Nat} {w:World} {b9 k:Nat} {s:Value} {wr W8 w9:World} {sl:Value} {ps:List (Value×Value)} {b:Option Addr} {m c g cap:Nat} (hlt:k<t.len) (hpl:ps.length=k) (b9k:Bk wr b9 #[kiV t,sl] 161) (hown:wr.ownsRow (b9+1) 161 2 sl k (psC ps))
  (hps:∀ j a x,ps[j]?=some (a,x)->a=kiV (t.kid j)/\OkS (fun g=>b9<g/\sl.ownBlock≠some g) wr (t.kid j) x) (hpok:∀ j,j<k->pokB (t.kid j) d=true) (box:Bk wr (w.heap.size+1) #[.nilIface, .slice none 0 0] 161) (h9:w.heap.size+1<b9) (hb:Below w.heap.size w wr)
  (hb8:Below wr.heap.size wr W8) (hk:OkS (fun g=>wr.heap.size<=g) W8 (t.kid k) (.slice b m c)) (hp:pokB (t.kid k) d=true) (hn:w9.ownsRow (b9+1) 161 2 (.slice (some ⟨g,0,none⟩) (k+1) cap) (k+1) (psC (ps++[(kiV (t.kid k), .slice b m c)]))) (hg:W8.grownBy w9 sl.ownBlock) (hor:sl.ownBlock=some g\/g=W8.heap.size) :
  OkI ea t d w b9 (k+1) s (w9.setCell ⟨b9,1,none⟩ (.slice (some ⟨g,0,none⟩) (k+1) cap)):=by
 have hlo:=hown.lt;have h9l:=b9k.lt;have hs8:=hb8.size;have hne:sl.ownBlock≠some b9:=fun e=>by have:=(hlo _ e).1;omega
 have hset:∀ x,x≠b9->(w9.setCell ⟨b9,1,none⟩ (.slice (some ⟨g,0,none⟩) (k+1) cap)).heap[x]?=w9.heap[x]?:=fun x hx=>Below.heap_setCell _ _ _ _ (by show _≠_;first|exact hx|exact fun e=>hx e.symm)
 refine ⟨by omega,⟨_,ps++[(kiV (t.kid k), .slice b m c)],by simp [hpl],(pl_grew (b9k.keep hb8) hg hne).set 1 _,pl_own_move hn fun x hx _=>hset x (by omega),?_⟩,?_,?_,h9,?_⟩
 ·intro j a x hj
  rcases Nat.lt_or_ge j k with h|h
  ·rw [List.getElem?_append_left (by omega)] at hj;obtain ⟨e,ok⟩:=hps j a x hj;refine ⟨e,ok.move fun q hq hql=>?_⟩;have x1:(Value.slice (some ⟨g,0,none⟩) (k+1) cap).ownBlock≠some q:=by
    intro e2;have e3:g=q:=by simpa [Value.ownBlock] using e2
    subst e3
    rcases hor with h1|h1
    ·exact hq.2 h1
    ·omega
   refine ⟨⟨hq.1,x1⟩,?_⟩;rw [hset q (by omega),hg.block q (by omega) (fun e=>hq.2 e.symm)];exact hb8.block q hql
  ·have hj2:j=k:=by
    have:=(List.getElem?_eq_some_iff.1 hj).1;simp at this;omega
   subst hj2;rw [List.getElem?_append_right (by omega),hpl,Nat.sub_self] at hj;simp only [List.getElem?_cons_zero,Option.some.injEq,Prod.mk.injEq] at hj;obtain ⟨rfl,rfl⟩:=hj;refine ⟨rfl,hk.move fun q hq hql=>?_⟩;have x1:(Value.slice (some ⟨g,0,none⟩) (j+1) cap).ownBlock≠some q:=by
    intro e2;have e3:g=q:=by simpa [Value.ownBlock] using e2
    subst e3
    rcases hor with h1|h1
    ·have:=(hlo _ h1).2;omega
    ·omega
   refine ⟨⟨by omega,x1⟩,?_⟩;rw [hset q (by omega)];exact hg.block q hql (fun e=>by have:=(hlo _ e.symm).2;omega)
 ·intro j hj
  rcases Nat.lt_or_ge j k with h|h
  ·exact hpok j h
  ·obtain rfl:j=k:=by omega
   exact hp
 ·have b2:=pl_grew (box.keep hb8) hg (fun e=>by have:=(hlo _ e).1;omega);unfold Bk;rw [hset _ (by omega)];exact b2
 ·exact ((bSz hb hb8).grown hg (by have:=hb.size;omega) (fun x e=>by have:=(hlo _ e).1;omega)).setCell (by show _<=b9;omega) _
theorem okPlan_good (ea:Addr) {F:Nat} {t:PT} {B d:Nat} {s:Value} {w:World} {deep:Int} (H:KindIs t.k (kT t.k) F) (hn:0<=t.n/\t.n<=99) (hs:KdS B w t s) (hg:w.cell? ⟨0,0,none⟩=some (erV ea))
  (hh:hereB t=true) (h0:1<=deep) (h4:deep<=4)
  (hrec:∀ i,i<t.len->∀ (W:World) (s':Value),KdS B W (t.kid i) s'->W.cell? ⟨0,0,none⟩=some (erV ea)->Calls Tryz.prog 138 #[pl (t.kid i).k (t.kid i).n s', .int .i64 (deep+1)] W (OkPost ea (t.kid i) d W)) :
  Calls Tryz.prog 138 #[pl t.k t.n s, .int .i64 deep] w (OkPost ea t (d+1) w):=by
 have HR:=(show Hid _ from hrec);have HH:=(show Hid _ from hh);have HSL:=(show Hid (KdS B w t s) from hs);have hh2:((t.len:Int)=kidN t.k)/\¬ t.n<numLo t.k/\¬ numHi t.k<t.n:=by
  simp only [hereB,inB,Bool.and_eq_true,decide_eq_true_eq] at hh;exact ⟨hh.1.2,by omega,by omega⟩
 obtain ⟨h1,h2,h3⟩:=hh2;have h5:¬ 4<deep:=by omega
 obtain ⟨a,c,rfl⟩:=hs.sl;have HS:=(show Hid (ShapeOf t.k F) from H.shape);have HK:=(show Hid _ from H.kind);have hme:=H.meth;have hen:=H.enters;have bP:Bk ((w.alloc (.cells #[.int .i64 t.k, .int .i64 t.n, .slice a t.len c] 25)).alloc (.cells #[.nilIface, .slice none 0 0] 161)) w.heap.size #[.int .i64 t.k, .int .i64 t.n, .slice a t.len c] 25:=(Bk.new _ _ rfl).alloc _;have bR:Bk ((w.alloc (.cells #[.int .i64 t.k, .int .i64 t.n, .slice a t.len c] 25)).alloc (.cells #[.nilIface, .slice none 0 0] 161)) (w.heap.size+1) #[.nilIface, .slice none 0 0] 161:=Bk.new _ _ (by simp);have hb0:Below w.heap.size w ((w.alloc (.cells #[.int .i64 t.k, .int .i64 t.n, .slice a t.len c] 25)).alloc (.cells #[.nilIface, .slice none 0 0] 161)):=bAz (bAz (Below.refl _ _) _) _;clear hs H hrec hh;obtain ⟨x0,x1,x2⟩:=bP.three';go_enter Tryz.func138,Tryz.ntmps138;go_wp2_with fail;generalize ((w.alloc (.cells #[.int .i64 t.k, .int .i64 t.n, .slice a t.len c] 25)).alloc (.cells #[.nilIface, .slice none 0 0] 161))=W0 at *;refine (HK.out t.n _ _).mono ?_;rintro e w1 ⟨rfl,hb1⟩;have bP1:=bP.keep hb1;have bR1:=bR.keep hb1;have hbw1:=bSz hb0 hb1;clear x0 x1 x2 bP bR hb0 hb1;go_wp2_with fail;refine (HS.out t.n _ hn.1 hn.2).mono ?_;rintro e w2 ⟨⟨sx,rfl⟩,hb2⟩;have bS:Bk (w2.alloc (.cells #[.string sx, .int .i64 (kidN t.k), .int .i64 (numLo t.k), .int .i64 (numHi t.k)] 217)) w2.heap.size #[.string sx, .int .i64 (kidN t.k), .int .i64 (numLo t.k), .int .i64 (numHi t.k)] 217:=Bk.new _ _ rfl;have hbS:Below w2.heap.size w2 (w2.alloc (.cells #[.string sx, .int .i64 (kidN t.k), .int .i64 (numLo t.k), .int .i64 (numHi t.k)] 217)):=bAz (Below.refl _ _) _;have bP2:=(bP1.keep hb2).keep hbS;have bR2:=(bR1.keep hb2).keep hbS;have hbw2:=bSz (bSz hbw1 hb2) hbS;clear hb2 hbS bP1 bR1 hbw1 hme hen
 go_upto_region 5 with fail
 generalize (w2.alloc (.cells #[.string sx, .int .i64 (kidN t.k), .int .i64 (numLo t.k), .int .i64 (numHi t.k)] 217))=W3 at *;generalize w2.heap.size=sb at *;obtain ⟨x0,x1,x2⟩:=bP2.three';obtain ⟨s0,s1,s2,s3⟩:=bS.four';have bN:Bk (W3.alloc (.cells #[kiV t, .slice none 0 0] 161)) W3.heap.size #[kiV t, .slice none 0 0] 161:=Bk.new _ _ rfl;have bP3:=bP2.alloc (.cells #[kiV t, .slice none 0 0] 161);obtain ⟨z0,z1,z2⟩:=bP3.three';have bR3:=bR2.alloc (.cells #[kiV t, .slice none 0 0] 161);have hbw3:=bAz hbw2 (.cells #[kiV t, .slice none 0 0] 161);have hlt:=bR2.lt;clear bP2 bS bR2 HS HK bP3;go_wp2_with fail;generalize (W3.alloc (.cells #[kiV t, .slice none 0 0] 161))=W4 at *;generalize W3.heap.size=b9 at *;clear x0 x1 x2 z0 z1 z2 s0 s1 s2 s3
 go_loopw [56] (fun i wr=>∃ k:Nat,i= .int .i64 k/\OkI ea t d w b9 k (.slice a t.len c) wr) (fun i _=>t.len-(intOf i).toNat)
 case atStart=>exact ⟨0,rfl,Nat.zero_le _,⟨_,[],rfl,bN,World.ownsRow_nil _ _ _ _,fun j a x h=>by simp at h⟩,fun j hj=>absurd hj (by omega),bR3,hlt,hbw3⟩
 case round =>
  obtain ⟨k,rfl,HI⟩:=hrel;obtain ⟨hkl,⟨sl,ps,hpl,b9k,hown,hps⟩,hpok,bR4,h9,hb⟩:=HI;have HP:=(show Hid _ from hps);have HO:=(show Hid (wr.ownsRow (b9+1) 161 2 sl k (psC ps)) from hown);have HPO:=(show Hid _ from hpok);clear hown hps hpok bN bR3 hbw3
  by_cases hlt2:k<t.len
  ·have ik:((k:Int)<(t.len:Int)):=by omega
   obtain ⟨g,off,sx,rfl,hgl,c0,c1,c2,hkid,b2,m2,d2,rfl⟩:=(HSL.out.keep hb).at hlt2;have bx:=Bk.new (w:=wr) #[.int .i64 (t.kid k).k, .int .i64 (t.kid k).n, .slice b2 m2 d2] 25 rfl;have hbx:Below wr.heap.size wr (wr.alloc (.cells #[.int .i64 (t.kid k).k, .int .i64 (t.kid k).n, .slice b2 m2 d2] 25)):=bAz (Below.refl _ _) _;have hk5:=hkid.keep hbx;have hg5:=cB (bSz hb hbx) hg;have HC5:=HR.out k hlt2 _ _ hk5 hg5;have HC6:=(show Hid _ from HC5);have hdeep:¬ (9223372036854775807:Int)<deep+1:=by omega
   obtain ⟨q0,q1,q2⟩:=bx.three';have hbw5:=bSz hb hbx;clear HC5 hk5 hkid HSL;go_wp2_with fail;refine Calls.mono HC6.out ?_;rintro e w7 ⟨hor,hb7⟩;have hb70:Below wr.heap.size wr w7:=bSz hbx hb7;have hbw7:=bSz hbw5 hb7;have hsz:(wr.alloc (.cells #[.int .i64 (t.kid k).k, .int .i64 (t.kid k).n, .slice b2 m2 d2] 25)).heap.size=wr.heap.size+1:=by simp
   rw [hsz] at hor;clear HC6 q0 q1 q2 hg5 bx hbx hbw5 hb7 c0 c1 c2 hsz
   rcases hor with ⟨hp,a3,n3,c3,rfl,hok⟩|⟨hp,rfl⟩
   ·have H8:Hid (Below wr.heap.size wr ((w7.alloc (.cells #[kiV (t.kid k), .slice a3 n3 c3] 161)).alloc (.cells #[kiV (t.kid k), .slice a3 n3 c3] 161))):=bAz (bAz hb70 _) _;have b12:=(Bk.new (w:=w7) #[kiV (t.kid k), .slice a3 n3 c3] 161 rfl);have b9a:=b9k.keep (bAz hb70 (.cells #[kiV (t.kid k), .slice a3 n3 c3] 161));have b9b:=b9k.keep H8.out;have bnew:Bk ((w7.alloc (.cells #[kiV (t.kid k), .slice a3 n3 c3] 161)).alloc (.cells #[kiV (t.kid k), .slice a3 n3 c3] 161)) (w7.heap.size+1) #[kiV (t.kid k), .slice a3 n3 c3] 161:=Bk.new _ _ (by simp);have hown8:=pl_own_move HO.out fun x _ hx=>H8.out.block x hx;have hok8:OkS (fun g=>wr.heap.size<=g) ((w7.alloc (.cells #[kiV (t.kid k), .slice a3 n3 c3] 161)).alloc (.cells #[kiV (t.kid k), .slice a3 n3 c3] 161)) (t.kid k) (.slice a3 n3 c3):=hok.move fun x hx hl=>⟨by omega,((bAz (bAz (Below.refl w7.heap.size w7) (.cells #[kiV (t.kid k), .slice a3 n3 c3] 161)) (.cells #[kiV (t.kid k), .slice a3 n3 c3] 161))).block x hl⟩;have HK8:=(show Hid _ from hok8);have hs7:=hb70.size;have h9l:=b9k.lt;have hnb:sl.ownBlock≠some b9:=fun e=>by have:=(HO.out.lt _ e).1;omega
    have HNB:=(show Hid _ from hnb);obtain ⟨p0,p1,_,_⟩:=b12.two;obtain ⟨q0,q1,_,_⟩:=b9a.two;have htl:=PT.len_le t;have hpl2:=hpl.symm;subst hpl2;have HW8:=(show Hid _ from hown8);clear hok8 hok hnb hown8
    go_wp2_with (at_builtin;go_must (refine appO _ rfl _ _ rfl (b9+1) _ ps rfl HW8.out _ _ _ _ _ _ rfl bnew (by omega) (by simp;omega) ?_);intro g9 cap9 w9 own9 hgrow hor9 hlg;have b99:=pl_grew b9b hgrow HNB.out;obtain ⟨y0,y1,f0,f1⟩:=b99.two)
    refine ⟨⟨ps.length+1,by go_num,okI_step hlt2 rfl b9k HO.out HP.out HPO.out bR4 h9 hb H8.out HK8.out hp own9 hgrow hor9⟩,?_⟩;simp [intOf];omega
   ·have bo:=((bR4.keep hb70).alloc (.cells #[.nilIface, .slice none 0 0] 161)).set01 .nilIface (.slice none 0 0);have br:=((bR4.keep hb70).alloc (.cells #[.nilIface, .slice none 0 0] 161));obtain ⟨r0,r1,f0,f1⟩:=br.two;obtain ⟨y0,y1,_,_⟩:=bo.two;have HB:Hid (Below w.heap.size w (((w7.alloc (.cells #[.nilIface, .slice none 0 0] 161)).setCell ⟨w.heap.size+1,0,none⟩ .nilIface).setCell ⟨w.heap.size+1,1,none⟩ (.slice none 0 0))):=(((bAz hbw7 _).setCell (by simp) _).setCell (by simp) _);have HX:Hid (pokB t (d+1)=false):=pok_kid hlt2 hp;clear bo br hbw7 hb70 b9k bR4;go_wp2_with fail;refine bodyPost_ret (v:= .tuple #[okZ,erV ea]) (by simp [results,Tryz.results138,go_sem,y0,y1];try rfl) rfl ?_;exact ⟨.inr ⟨HX.out,rfl⟩,HB.out⟩
  ·obtain rfl:k=t.len:=by omega
   have ik:¬ ((t.len:Int)<(t.len:Int)):=by omega
   obtain ⟨q0,q1,_,_⟩:=b9k.two;obtain ⟨r0,r1,f0,f1⟩:=bR4.two;have bo:=bR4.set01 (kiV t) sl;obtain ⟨y0,y1,_,_⟩:=bo.two;have HB:Hid (Below w.heap.size w ((wr.setCell ⟨w.heap.size+1,0,none⟩ (kiV t)).setCell ⟨w.heap.size+1,1,none⟩ sl)):=((hb.setCell (by simp) _).setCell (by simp) _);have hset:∀ x,x≠w.heap.size+1->((wr.setCell ⟨w.heap.size+1,0,none⟩ (kiV t)).setCell ⟨w.heap.size+1,1,none⟩ sl).heap[x]?=wr.heap[x]?:=fun x hx=>(Below.heap_setCell _ _ _ _ hx).trans (Below.heap_setCell _ _ _ _ hx);have hok:OkS (fun g=>w.heap.size<=g) ((wr.setCell ⟨w.heap.size+1,0,none⟩ (kiV t)).setCell ⟨w.heap.size+1,1,none⟩ sl) t sl:=(okS_of (q:=fun g=>b9<g) HO.out hpl HP.out (fun g h=>h) (fun g h=>h.1)).move fun x hx _=>⟨by omega,hset x (by omega)⟩;obtain ⟨a5,c5,e5⟩:=hok.sl;subst e5;have HX:Hid (pokB t (d+1)=true):=pok_yes HH.out HPO.out;have HOK:=(show Hid _ from hok);clear bo hset hok HO HP HPO b9k bR4 hb;go_wp2_with fail;refine bodyPost_ret (v:= .tuple #[.agg #[kiV t, .slice a5 t.len c5], .nilIface]) (by simp [results,Tryz.results138,go_sem,y0,y1];try rfl) rfl ?_;exact ⟨.inl ⟨HX.out,_,_,_,rfl,HOK.out⟩,HB.out⟩
theorem okPlan_any (ea:Addr):∀ (d:Nat) (t:PT) {B:Nat} {s:Value} {w:World} (deep:Int),deep+d=5->d<=4->t.sm->KdS B w t s->w.cell? ⟨0,0,none⟩=some (erV ea)->Calls Tryz.prog 138 #[pl t.k t.n s, .int .i64 deep] w (OkPost ea t d w):=by
 intro d
 induction d with
 | zero =>
  intro t B s w deep h1 _ hsm hs hg;have hp:=pok_zero t
  by_cases hk:inB t.k 1 6=true
  ·obtain ⟨F,H⟩:=kind_of hk;refine (okPlan_bad ea H (PT.sm_n hsm) hs hg (.inl (by omega))).mono ?_;rintro e w' ⟨rfl,hb⟩;exact ⟨.inr ⟨hp,rfl⟩,hb⟩
  ·have hk2:t.k<1\/6<t.k:=by simp [inB] at hk;omega
   obtain ⟨a,c,e⟩:=hs.sl;refine (okPlan_none ea ⟨a,_,c,e⟩ hk2 hg).mono ?_;rintro e w' ⟨rfl,hb⟩;exact ⟨.inr ⟨hp,rfl⟩,hb⟩
 | succ d ih =>
  intro t B s w deep h1 h4 hsm hs hg
  by_cases hk:inB t.k 1 6=true
  ·obtain ⟨F,H⟩:=kind_of hk;cases hh:hereB t
   ·refine (okPlan_bad ea H (PT.sm_n hsm) hs hg ?_).mono ?_
    ·have:¬ ((t.len:Int)=kidN t.k/\numLo t.k<=t.n/\t.n<=numHi t.k):=by
      intro hx;have:hereB t=true:=by simp [hereB,hk,hx.1];simp [inB,hx.2.1,hx.2.2]
      rw [hh] at this;cases this
     omega
    ·rintro e w' ⟨rfl,hb⟩;exact ⟨.inr ⟨pok_here hh,rfl⟩,hb⟩
   ·exact okPlan_good ea H (PT.sm_n hsm) hs hg hh (by omega) (by omega) fun i hi W s' hs' hg'=>ih (t.kid i) (deep+1) (by omega) (by omega) (PT.sm_kid hsm hi) hs' hg'
  ·have hk2:t.k<1\/6<t.k:=by simp [inB] at hk;omega
   obtain ⟨a,c,e⟩:=hs.sl;refine (okPlan_none ea ⟨a,_,c,e⟩ hk2 hg).mono ?_;rintro e w' ⟨rfl,hb⟩;exact ⟨.inr ⟨pok_here (by simp [hereB,hk]),rfl⟩,hb⟩
theorem l21Kids_any (k:Int) (w:World):Calls Tryz.prog 226 #[.int .i64 k] w fun e w'=>e= .returned (.tuple #[.int .i64 (kidN k), .int .i64 (numLo k), .int .i64 (numHi k)])/\w'=w:=by
 have hc:k=1\/k=2\/k=3\/k=4\/k=5\/k=6\/(k<1\/6<k):=by omega
 go_enter Tryz.func226,Tryz.ntmps226
 rcases hc with rfl|rfl|rfl|rfl|rfl|rfl|hc
 case inr.inr.inr.inr.inr.inr =>
  have n1:¬ k=1:=by omega
  have n2:¬ k=2:=by omega
  have n3:¬ k=3:=by omega
  have n4:¬ k=4:=by omega
  have n5:¬ k=5:=by omega
  have n6:¬ k=6:=by omega
  have e1:kidN k = -1:=by simp [kidN,n1,n2,n3,n4,n5,n6]
  have e2:numLo k=0:=by simp [numLo,n2,n6]
  have e3:numHi k=0:=by simp [numHi,n1,n2,n6]
  clear hc;go_wp2_with fail;refine bodyPost_ret (by simp [results,Tryz.results226,go_sem];try rfl) rfl ?_;exact ⟨by rw [e1,e2,e3],rfl⟩
 all_goals
  go_wp2_with fail;refine bodyPost_ret (by simp [results,Tryz.results226,go_sem];try rfl) rfl ?_;exact ⟨rfl,rfl⟩
def SokPost (t:PT) (d:Nat) (w:World) (e:Ending) (w':World):Prop:=e= .returned (.bool (pokB t d))/\Below w.heap.size w w'
theorem l21Ok_no {t:PT} {B d:Nat} {s:Value} {w:World} (hd:d<=4) (hs:KdS B w t s) (hh:d<1\/hereB t=false):Calls Tryz.prog 175 #[pl t.k t.n s, .int .i64 d] w fun e w'=>e= .returned (.bool false)/\Below w.heap.size w w':=by
 have bP:Bk (w.alloc (.cells #[.int .i64 t.k, .int .i64 t.n,s] 25)) w.heap.size #[.int .i64 t.k, .int .i64 t.n,s] 25:=Bk.new _ _ rfl;have hb0:Below w.heap.size w (w.alloc (.cells #[.int .i64 t.k, .int .i64 t.n,s] 25)):=bAz (Below.refl _ _) _;obtain ⟨x0,x1,x2⟩:=bP.three';obtain ⟨a,c,rfl⟩:=hs.sl;have hc:((d:Int)<1)\/(¬ (d:Int)<1/\¬ (t.len:Int)=kidN t.k)\/(¬ (d:Int)<1/\(t.len:Int)=kidN t.k/\inB t.n (numLo t.k) (numHi t.k)=false):=by
  rcases hh with h|h
  ·exact .inl (by omega)
  ·rcases Nat.lt_or_ge d 1 with h1|h1
   ·exact .inl (by omega)
   ·by_cases h2:(t.len:Int)=kidN t.k
    ·refine .inr (.inr ⟨by omega,h2,?_⟩)
     by_cases hk:inB t.k 1 6=true
     ·simp only [hereB,hk,h2,decide_true,Bool.true_and,Bool.and_self] at h;exact h
     ·exfalso
      have:kidN t.k = -1:=by
       simp [inB] at hk;have n1:¬ t.k=1:=by omega
       have n2:¬ t.k=2:=by omega
       have n3:¬ t.k=3:=by omega
       have n4:¬ t.k=4:=by omega
       have n5:¬ t.k=5:=by omega
       have n6:¬ t.k=6:=by omega
       simp [kidN,n1,n2,n3,n4,n5,n6]
      omega
    ·exact .inr (.inl ⟨by omega,h2⟩)
 clear hs hh bP;go_enter Tryz.func175,Tryz.ntmps175;go_wp2_with fail;refine (l21Kids_any t.k _).mono ?_;rintro e w1 ⟨rfl,rfl⟩
 rcases hc with h1|⟨h1,h2⟩|⟨h1,h2,h3⟩
 ·go_wp2_with fail;go_ret;exact ⟨rfl,hb0⟩
 ·go_wp2_with fail;go_ret;exact ⟨rfl,hb0⟩
 ·go_wp2_with fail;refine (l6In_any _ _ _ _).mono ?_;rintro e w1 ⟨rfl,rfl⟩;rw [h3];go_wp2_with fail;go_ret;exact ⟨rfl,hb0⟩
theorem l21Ok_yes {t:PT} {B d:Nat} {s:Value} {w:World} (hd:d<=3) (hs:KdS B w t s) (hh:hereB t=true)
  (hrec:∀ i,i<t.len->∀ (W:World) (s':Value),KdS B W (t.kid i) s'->Calls Tryz.prog 175 #[pl (t.kid i).k (t.kid i).n s', .int .i64 d] W (SokPost (t.kid i) d W)):Calls Tryz.prog 175 #[pl t.k t.n s, .int .i64 ((d+1:Nat):Int)] w (SokPost t (d+1) w):=by
 have bP:Bk (w.alloc (.cells #[.int .i64 t.k, .int .i64 t.n,s] 25)) w.heap.size #[.int .i64 t.k, .int .i64 t.n,s] 25:=Bk.new _ _ rfl;have hb0:Below w.heap.size w (w.alloc (.cells #[.int .i64 t.k, .int .i64 t.n,s] 25)):=bAz (Below.refl _ _) _;obtain ⟨x0,x1,x2⟩:=bP.three';have HSL:=(show Hid _ from hs.keep hb0);obtain ⟨a,c,rfl⟩:=hs.sl;have HR:=(show Hid _ from hrec);have HH:=(show Hid _ from hh);have hh2:((t.len:Int)=kidN t.k)/\inB t.n (numLo t.k) (numHi t.k)=true:=by
  simp only [hereB,Bool.and_eq_true,decide_eq_true_eq] at hh;exact ⟨hh.1.2,hh.2⟩
 obtain ⟨h2,h3⟩:=hh2;have htl:=PT.len_le t;have hd2:((d+1:Nat):Int)=(d:Int)+1:=by omega
 have h1:¬ ((d:Int)+1<1):=by omega
 have hd3:((d:Int)+1)-1=(d:Int):=by omega
 rw [hd2];clear hs hrec hh hd2;go_enter Tryz.func175,Tryz.ntmps175;go_wp2_with fail;refine (l21Kids_any t.k _).mono ?_;rintro e w1 ⟨rfl,rfl⟩;go_wp2_with fail;refine (l6In_any _ _ _ _).mono ?_;rintro e w1 ⟨rfl,rfl⟩;rw [h3];go_wp2_with fail;generalize (w.alloc (.cells #[.int .i64 t.k, .int .i64 t.n, .slice a t.len c] 25))=W0 at *;clear x0 x1 x2
 go_loopw [8] (fun i wr=>∃ k:Nat,i= .int .i64 k/\k<=t.len/\(∀ j,j<k->pokB (t.kid j) d=true)/\Below W0.heap.size W0 wr) (fun i _=>t.len-(intOf i).toNat)
 case atStart=>exact ⟨0,rfl,Nat.zero_le _,fun j hj=>absurd hj (by omega),Below.refl _ _⟩
 case round =>
  obtain ⟨k,rfl,hkl,hpok,hb⟩:=hrel;have HPO:=(show Hid _ from hpok);clear hpok;have bP1:=bP.keep hb;obtain ⟨x0,x1,x2⟩:=bP1.three'
  by_cases hlt2:k<t.len
  ·have ik:((k:Int)<(t.len:Int)):=by omega
   obtain ⟨g,off,sx,rfl,hgl,c0,c1,c2,hkid,b2,m2,d2,rfl⟩:=(HSL.out.keep hb).at hlt2;have HC:=(show Hid _ from HR.out k hlt2 wr _ hkid);clear hkid;go_wp2_with fail;refine Calls.mono HC.out ?_;rintro e w7 ⟨rfl,hb7⟩;have hb8:=bSz hb hb7;cases hp:pokB (t.kid k) d
   ·have HX:Hid (pokB t (d+1)=false):=pok_kid hlt2 hp;go_wp2_with fail;go_ret;exact ⟨by rw [HX.out];rfl,bSz hb0 hb8⟩
   ·have HN:Hid (∀ j,j<k+1->pokB (t.kid j) d=true):=fun j hj=>by
     rcases Nat.lt_or_ge j k with h|h
     ·exact HPO.out j h
     ·obtain rfl:j=k:=by omega
      exact hp
    go_wp2_with fail;go_roundw
    case rel=>exact ⟨k+1,by go_num,by omega,HN.out,hb8⟩
    case measure=>simp [intOf];omega
  ·obtain rfl:k=t.len:=by omega
   have ik:¬ ((t.len:Int)<(t.len:Int)):=by omega
   have HX:Hid (pokB t (d+1)=true):=pok_yes HH.out HPO.out;go_wp2_with fail;go_ret;exact ⟨by rw [HX.out];rfl,bSz hb0 hb⟩
theorem l21Ok_any:∀ (d:Nat) (t:PT) {B:Nat} {s:Value} {w:World},d<=4->KdS B w t s->Calls Tryz.prog 175 #[pl t.k t.n s, .int .i64 d] w (SokPost t d w):=by
 intro d
 induction d with
 | zero =>
  intro t B s w hd hs;refine (l21Ok_no hd hs (.inl (by omega))).mono ?_;rintro e w' ⟨rfl,hb⟩;exact ⟨by rw [pok_zero],hb⟩
 | succ d ih =>
  intro t B s w hd hs;cases hh:hereB t
  ·refine (l21Ok_no hd hs (.inr hh)).mono ?_;rintro e w' ⟨rfl,hb⟩;exact ⟨by rw [pok_here hh],hb⟩
  ·exact l21Ok_yes (by omega) hs hh fun i _ W s' hs'=>ih (t.kid i) (by omega) hs'
theorem specPlanOk_any {t:PT} {B:Nat} {s:Value} {w:World} (hs:KdS B w t s) :
  Calls Tryz.prog 102 #[pl t.k t.n s] w fun e w'=>e= .returned (.bool (pokB t 4))/\Below w.heap.size w w':=by
 have bP:Bk (w.alloc (.cells #[.int .i64 t.k, .int .i64 t.n,s] 25)) w.heap.size #[.int .i64 t.k, .int .i64 t.n,s] 25:=Bk.new _ _ rfl;have hb0:Below w.heap.size w (w.alloc (.cells #[.int .i64 t.k, .int .i64 t.n,s] 25)):=bAz (Below.refl _ _) _;obtain ⟨x0,x1,x2⟩:=bP.three';have HC:=(show Hid _ from l21Ok_any 4 t (by omega) (hs.keep hb0));obtain ⟨a,c,rfl⟩:=hs.sl;clear hs bP;go_enter Tryz.func102,Tryz.ntmps102;go_wp2_with fail;refine Calls.mono HC.out ?_;rintro e w1 ⟨rfl,hb1⟩;go_wp2_with fail;go_ret;exact ⟨rfl,bSz hb0 hb1⟩
end Go.Proofs.YtbdpcngcbnoioaaGreatDoor
