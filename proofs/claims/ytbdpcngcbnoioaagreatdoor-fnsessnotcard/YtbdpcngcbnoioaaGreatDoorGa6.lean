import Derived.Test.YtbdpcngcbnoioaaGreatDoorGa5
import Derived.Test.YtbdpcngcbnoioaaGreatDoorGa3
import Derived.Deep.RegionWith
import Derived.Test.YtbdpcngcbnoioaaGreatDoorGa4
set_option maxRecDepth 100000
set_option maxHeartbeats 16000000
namespace Go.Proofs.YtbdpcngcbnoioaaGreatDoor
open Go.RowKit
attribute [local go_sem ↓] Go.wp_at_zero Go.wp_at_succ
attribute [local go_sem ↓] Go.wp_at_zero Go.wp_at_succ
def anyB (l:LI) (x y:Int):Bool:=(List.range l.length).any fun i=>leB (tA l i) (tB l i) x y
theorem any_true {l:LI} {x y:Int} {k:Nat} (hk:k<l.length) (h:leB (tA l k) (tB l k) x y=true):anyB l x y=true:=by
 unfold anyB;rw [List.any_eq_true];exact ⟨k,by simpa using hk,h⟩
theorem any_false {l:LI} {x y:Int} (h:∀ j,j<l.length->leB (tA l j) (tB l j) x y=false):anyB l x y=false:=by
 unfold anyB;rw [List.any_eq_false];intro j hj;rw [h j (by simpa using hj)];simp
def Fk (w:World) (k:Nat):Prop:=w.heap[k]?=some (.cells #[.func (.func 90) #[] #[]] 112 (0,0))
theorem Fk.keep {w w1:World} {k:Nat} (h:Fk w k) (hb:Below w.heap.size w w1):Fk w1 k:=by
 unfold Fk;rw [hb.block k (lt_of_block h)];exact h
theorem Fk.cell {w:World} {k:Nat} (h:Fk w k):w.cell? ⟨k,0,none⟩=some (.func (.func 90) #[] #[]):=cell_of_one h
theorem closR_any (a b x y:Int) (bn bx:Nat) (w:World) (hf:Fk w bn) (hx:Bk w bx #[.int .i64 x, .int .i64 y] 32) :
  Calls Tryz.prog 158 #[tv a b, .pointer (some ⟨bn,0,none⟩), .pointer (some ⟨bx,0,none⟩)] w fun e w'=>e= .returned (.bool (leB a b x y))/\Below w.heap.size w w':=by
 have c0:=hf.cell;obtain ⟨x0,x1,_,_⟩:=hx.two;have l0:=lt_of_block hf;have l1:=hx.lt;go_enter Tryz.func158,Tryz.ntmps158
 go_wp2_with (go_at_call 90;refine (implLess_any _ _ _ _ _).mono ?_;rintro e w' ⟨rfl,hb⟩)
 go_ret;refine ⟨rfl,?_⟩
 repeat' (first|(with_reducible exact Below.refl _ _)|(with_reducible assumption)|(with_reducible refine bSz ?_ (by with_reducible assumption))|(with_reducible refine bAz ?_ _)|(with_reducible refine Below.drew ?_)|(with_reducible refine bDz ?_ _)|(with_reducible refine Below.setCell ?_ ?_ _)|(simp;done)|(simp;omega)|omega)
theorem closR_eq {a b x y:Int} {r:Bool} (h:leB a b x y=r) {bn bx:Nat} {w:World} (hf:Fk w bn) (hx:Bk w bx #[.int .i64 x, .int .i64 y] 32) :
  Calls Tryz.prog 158 #[tv a b, .pointer (some ⟨bn,0,none⟩), .pointer (some ⟨bx,0,none⟩)] w fun e w'=>e= .returned (.bool r)/\Below w.heap.size w w':=by
 rw [<- h];exact closR_any a b x y bn bx w hf hx
def IsFirst (p:Nat->Bool) (n:Nat) (r:Int):Prop:=(r = -1/\∀ i,i<n->p i=false)\/∃ k:Nat,r=k/\k<n/\p k=true/\∀ i,i<k->p i=false
theorem indexR_any (v:Value) (l:LI) (x y:Int) (bn bx:Nat) (w:World) (h:Ts w v l) (hf:Fk w bn) (hx:Bk w bx #[.int .i64 x, .int .i64 y] 32) :
  Calls Tryz.prog 204 #[v, .func (.func 158) #[] #[.pointer (some ⟨bn,0,none⟩), .pointer (some ⟨bx,0,none⟩)]] w fun e w'=>∃ r:Int,e= .returned (.int .i64 r)/\IsFirst (fun i=>leB (tA l i) (tB l i) x y) l.length r/\Below w.heap.size w w':=by
 obtain ⟨a,cap,rfl,hc,hm,hn,hcells⟩:=h;unfold maxLen at hm;have HC:=(show Hid _ from hcells);clear hcells;go_enter Tryz.func204,Tryz.ntmps204;go_wp2_with fail
 go_loopw [8] (fun i wr=>∃ k:Nat,k<=l.length/\i= .int .i64 k/\(∀ j,j<k->leB (tA l j) (tB l j) x y=false)/\Below w.heap.size w wr) (fun i _=>l.length-(intOf i).toNat)
 case atStart=>exact ⟨0,by omega,rfl,fun j hj=>by omega,Below.refl _ _⟩
 case round =>
  obtain ⟨k,hk,rfl,hall,hb⟩:=hrel;have HA:=(show Hid _ from hall);clear hall
  by_cases hlt:k<l.length
  ·obtain ⟨g,off,rfl,hg,c0,c1⟩:=HC.out k hlt;have d0:=cB hb c0;have d1:=cB hb c1;clear c0 c1;generalize hX:tA l k=X at *;generalize hY:tB l k=Y at *;have EX:Hid (tA l k=X):=hX;have EY:Hid (tB l k=Y):=hY;clear hX hY;have hf2:=hf.keep hb;have hx2:=hx.keep hb;cases hp:leB X Y x y
   ·have HK:Hid (leB (tA l k) (tB l k) x y=false):=by show _=false;rw [EX.out,EY.out];exact hp
    go_wp2_with fail;refine (closR_eq hp hf2 hx2).mono ?_;rintro e w1 ⟨rfl,hb1⟩;have hbw:=bSz hb hb1;go_wp2_with fail;go_roundw
    case rel =>
     refine ⟨k+1,by omega,by go_num,fun j hj=>?_,hbw⟩
     by_cases e:j=k
     ·subst e;exact HK.out
     ·exact HA.out j (by omega)
    case measure=>simp [intOf];omega
   ·have HK:Hid (leB (tA l k) (tB l k) x y=true):=by show _=true;rw [EX.out,EY.out];exact hp
    go_wp2_with fail;refine (closR_eq hp hf2 hx2).mono ?_;rintro e w1 ⟨rfl,hb1⟩;have hbw:=bSz hb hb1;go_wp2_with fail;go_ret;exact ⟨_,rfl, .inr ⟨k,rfl,hlt,HK.out,HA.out⟩,hbw⟩
  ·go_wp2_with fail;go_ret;exact ⟨_,rfl, .inl ⟨rfl,fun i hi=>HA.out i (by omega)⟩,hb⟩
theorem containsR_any (v:Value) (l:LI) (x y:Int) (bn bx:Nat) (w:World) (h:Ts w v l) (hf:Fk w bn) (hx:Bk w bx #[.int .i64 x, .int .i64 y] 32) :
  Calls Tryz.prog 157 #[v, .func (.func 158) #[] #[.pointer (some ⟨bn,0,none⟩), .pointer (some ⟨bx,0,none⟩)]] w fun e w'=>e= .returned (.bool (anyB l x y))/\Below w.heap.size w w':=by
 go_enter Tryz.func157,Tryz.ntmps157;go_wp2_with fail;refine (indexR_any v l x y bn bx w h hf hx).mono ?_;rintro e w1 ⟨r,rfl,hr,hb⟩
 rcases hr with ⟨rfl,hno⟩|⟨k,rfl,hk,hyes,_⟩
 ·have hfin:Hid (anyB l x y=false):=any_false hno;clear hno;go_wp2_with fail;go_ret;exact ⟨rB hfin.out.symm,hb⟩
 ·have hfin:Hid (anyB l x y=true):=any_true hk hyes;have ik:(0:Int)<=(k:Int):=by omega
  clear hyes;go_wp2_with fail;go_ret;refine ⟨?_,hb⟩;rw [hfin.out];exact rB (by simp)
theorem reaches_any (v:Value) (l:LI) (x y:Int) (w:World) (h:Ts w v l) :
  Calls Tryz.prog 89 #[v,tv x y, .func (.func 90) #[] #[]] w fun e w'=>e= .returned (.bool (anyB l x y))/\Below w.heap.size w w':=by
 have hb0:Below w.heap.size w ((w.alloc (.cells #[.int .i64 x, .int .i64 y] 32)).alloc (.cells #[.func (.func 90) #[] #[]] 112)):=bAz (bAz (Below.refl _ _) _) _;have hx:Bk ((w.alloc (.cells #[.int .i64 x, .int .i64 y] 32)).alloc (.cells #[.func (.func 90) #[] #[]] 112)) w.heap.size #[.int .i64 x, .int .i64 y] 32:=(Bk.new _ _ rfl).alloc _;have hf:Fk ((w.alloc (.cells #[.int .i64 x, .int .i64 y] 32)).alloc (.cells #[.func (.func 90) #[] #[]] 112)) (w.heap.size+1):=by
  have:=heap_alloc_new (w.alloc (.cells #[.int .i64 x, .int .i64 y] 32)) (.cells #[.func (.func 90) #[] #[]] 112)
  simpa [Fk] using this
 go_enter Tryz.func89,Tryz.ntmps89;go_wp2_with fail;refine (containsR_any v l x y _ _ _ (h.keep hb0) hf hx).mono ?_;rintro e w1 ⟨rfl,hb1⟩;go_wp2_with fail;go_ret;exact ⟨rfl,bSz hb0 hb1⟩
theorem implCovers_any (v:Value) (l:LI) (x y:Int) (w:World) (h:Ts w v l) :
  Calls Tryz.prog 29 #[v,tv x y] w fun e w'=>e= .returned (.bool (fokB l&&anyB l x y))/\Below w.heap.size w w':=by
 have hb0:Below w.heap.size w (w.alloc (.cells #[.int .i64 x, .int .i64 y] 32)):=bAz (Below.refl _ _) _;have bx:Bk (w.alloc (.cells #[.int .i64 x, .int .i64 y] 32)) w.heap.size #[.int .i64 x, .int .i64 y] 32:=Bk.new _ _ rfl;go_enter Tryz.func29,Tryz.ntmps29;go_wp2_with fail;refine (implFrontOk_any v l _ (h.keep hb0)).mono ?_;rintro e w1 ⟨rfl,hb1⟩;have hbw1:=bSz hb0 hb1;obtain ⟨c0,c1,_,_⟩:=(bx.keep hb1).two;cases hf:fokB l
 ·go_wp2_with fail;go_ret;exact ⟨rB (by simp [hf]),hbw1⟩
 ·go_wp2_with fail;refine (reaches_any v l x y _ (h.keep hbw1)).mono ?_;rintro e w2 ⟨rfl,hb2⟩;go_wp2_with fail;go_ret;exact ⟨rB (by simp [hf]),bSz hbw1 hb2⟩
theorem specLess_eq {a b c d:Int} {r:Bool} (h:leB a b c d=r) (w:World):Calls Tryz.prog 129 #[tv a b,tv c d] w fun e w'=>e= .returned (.bool r)/\Below w.heap.size w w':=by
 rw [<- h];exact specLess_any a b c d w
theorem specCovers_any (v:Value) (l:LI) (x y:Int) (w:World) (h:Ts w v l) :
  Calls Tryz.prog 62 #[v,tv x y] w fun e w'=>e= .returned (.bool (fokB l&&anyB l x y))/\Below w.heap.size w w':=by
 have hb0:Below w.heap.size w (w.alloc (.cells #[.int .i64 x, .int .i64 y] 32)):=bAz (Below.refl _ _) _;have bx:Bk (w.alloc (.cells #[.int .i64 x, .int .i64 y] 32)) w.heap.size #[.int .i64 x, .int .i64 y] 32:=Bk.new _ _ rfl;go_enter Tryz.func62,Tryz.ntmps62;go_wp2_with fail;refine (specFrontOk_any v l _ (h.keep hb0)).mono ?_;rintro e w1 ⟨rfl,hb1⟩;have hbw1:=bSz hb0 hb1;have bx1:=bx.keep hb1;cases hf:fokB l
 ·go_wp2_with fail;go_ret;exact ⟨rB (by simp [hf]),hbw1⟩
 obtain ⟨a,cap,rfl,hc,hm,hn,hcells⟩:=h.keep hbw1;unfold maxLen at hm;have HC:=(show Hid _ from hcells);have HF:Hid (fokB l=true):=hf;clear hcells bx hb0 hb1 hf;go_wp2_with fail
 go_loopw [5] (fun i wr=>∃ k:Nat,k<=l.length/\i= .int .i64 k/\(∀ j,j<k->leB (tA l j) (tB l j) x y=false)/\Below w1.heap.size w1 wr) (fun i _=>l.length-(intOf i).toNat)
 case atStart=>exact ⟨0,by omega,rfl,fun j hj=>by omega,Below.refl _ _⟩
 case round =>
  obtain ⟨k,hk,rfl,hall,hb⟩:=hrel;have HA:=(show Hid _ from hall);clear hall;have hbw:=bSz hbw1 hb
  by_cases hlt:k<l.length
  ·obtain ⟨g,off,rfl,hg,c0,c1⟩:=HC.out k hlt;generalize hX:tA l k=X at *;generalize hY:tB l k=Y at *;have EX:Hid (tA l k=X):=hX;have EY:Hid (tB l k=Y):=hY;clear hX hY;have d0:∀ p:Bel wr,p.ww.cell? ⟨g,off+k*2,none⟩=some (.int .i64 X):=fun p=>cB p.below (cB hb c0);have d1:∀ p:Bel wr,p.ww.cell? ⟨g,off+k*2+1,none⟩=some (.int .i64 Y):=fun p=>cB p.below (cB hb c1);have e0:=(bx1.keep hb).bel0;have e1:=(bx1.keep hb).bel1;have hne:=bel_some wr;have ik:((k:Int)<(l.length:Int)):=by omega
   clear c0 c1;cases hp:leB X Y x y
   ·have HK:Hid (leB (tA l k) (tB l k) x y=false):=by show _=false;rw [EX.out,EY.out];exact hp
    go_wp2_with fail
    (refine wBz (by kernel_rfl) (by kernel_rfl) ?_;(repeat (go_big_quiet_step ((first|(go_at_call 129;exact clz (specLess_eq (by with_reducible assumption) _))))));refine wpQuiet_nil ?_)
    intro w2 hw2
    replace hw2:=bOz hw2
    have hb2:=bSz hb hw2;go_wp2_with fail;go_roundw
    case rel =>
     refine ⟨k+1,by omega,by go_num,fun j hj=>?_,hb2⟩
     by_cases e:j=k
     ·subst e;exact HK.out
     ·exact HA.out j (by omega)
    case measure=>simp [intOf];omega
   ·have HK:Hid (anyB l x y=true):=any_true hlt (by rw [EX.out,EY.out];exact hp);go_wp2_with fail
    (refine wBz (by kernel_rfl) (by kernel_rfl) ?_;(repeat (go_big_quiet_step ((first|(go_at_call 129;exact clz (specLess_eq (by with_reducible assumption) _))))));refine wpQuiet_nil ?_)
    intro w2 hw2
    replace hw2:=bOz hw2
    go_wp2_with fail;go_ret;exact ⟨rB (by rw [HF.out,HK.out];rfl),bSz hbw hw2⟩
  ·have HK:Hid (anyB l x y=false):=any_false fun j hj=>HA.out j (by omega);go_wp2_with fail;go_ret;exact ⟨rB (by rw [HK.out];simp),hbw⟩
def cellsL (l:LI):List Value:=l.flatMap fun p=>[.int .i64 p.1, .int .i64 p.2]
theorem cellsL_length (l:LI):(cellsL l).length=l.length*2:=by
 induction l with
 | nil=>rfl
 | cons p l ih=>unfold cellsL at *;simp [List.flatMap_cons,ih];omega
theorem cellsL_snoc (l:LI) (a b:Int):cellsL (l++[(a,b)])=cellsL l++[.int .i64 a, .int .i64 b]:=by
 unfold cellsL;rw [List.flatMap_append];simp
theorem cellsL_get (l:LI) (i:Nat) (h:i<l.length):(cellsL l)[i*2]?=some (.int .i64 (tA l i))/\(cellsL l)[i*2+1]?=some (.int .i64 (tB l i)):=by
 induction l generalizing i with
 | nil=>simp at h
 | cons p l ih =>
  cases i with
  | zero=>simp [cellsL,tA,tB,List.flatMap_cons]
  | succ i =>
   have:=ih i (by simpa using h);have e1:(i+1)*2=i*2+2:=by omega
   have e2:(i+1)*2+1=i*2+1+2:=by omega
   rw [e1]
   simpa [cellsL,List.flatMap_cons,tA,tB] using this
abbrev Own (w:World) (B:Nat) (v:Value) (l:LI):Prop:=w.ownsRow B 32 2 v l.length (cellsL l)
theorem Own.ts {w:World} {B:Nat} {v:Value} {l:LI} (h:Own w B v l) (hl:l.length<=2097152):Ts w v l:=by
 have hh:=h;obtain ⟨_,h2⟩:=h
 rcases h2 with ⟨rfl,h0⟩|⟨g,cap,cur,rfl,hg,hb,hc,hm,_,_⟩
 ·have:l=[]:=List.eq_nil_of_length_eq_zero h0;subst this;exact ⟨none,0,rfl,Nat.le_refl _,by unfold maxLen;omega,by simp,fun i hi=>by simp at hi⟩
 ·refine ⟨_,cap,rfl,hc,hm,hl,fun i hi=>⟨g,0,rfl,lt_of_block hb,?_,?_⟩⟩
  ·rw [Nat.zero_add,hh.cellAt _ (by omega)];exact (cellsL_get l i hi).1
  ·rw [Nat.zero_add,hh.cellAt _ (by omega)];exact (cellsL_get l i hi).2
theorem own_move {w w1:World} {B:Nat} {e:TypeId} {s:Nat} {v:Value} {n:Nat} {xs:List Value} (h:w.ownsRow B e s v n xs) (hb:∀ k,B<=k->k<w.heap.size->w1.heap[k]?=w.heap[k]?):w1.ownsRow B e s v n xs:=by
 obtain ⟨h1,h2⟩:=h;refine ⟨h1,?_⟩
 rcases h2 with h2|⟨g,cap,cur,rfl,hg,hh,r⟩
 ·exact .inl h2
 ·exact .inr ⟨g,cap,cur,rfl,hg,by rw [hb g hg (lt_of_block hh)];exact hh,r⟩
theorem oX {g:Nat} {w w1:World} {B:Nat} {e:TypeId} {s:Nat} {v:Value} {n:Nat} {xs:List Value} (h:w.ownsRow B e s v n xs) (hx:Bx g w w1) (hg:g<B):w1.ownsRow B e s v n xs :=
 own_move h fun k hk hs=>hx.block k hs (by omega)
theorem oKz {w w1:World} {B:Nat} {e:TypeId} {s:Nat} {v:Value} {n:Nat} {xs:List Value} (h:w.ownsRow B e s v n xs) (hx:Below w.heap.size w w1):w1.ownsRow B e s v n xs :=
 own_move h fun k _ hs=>hx.block k hs
theorem oLz {w:World} {B B':Nat} {e:TypeId} {s:Nat} {v:Value} {n:Nat} {xs:List Value} (h:w.ownsRow B e s v n xs) (hB:B'<=B):w.ownsRow B' e s v n xs:=by
 obtain ⟨h1,h2⟩:=h;refine ⟨h1,?_⟩
 rcases h2 with h2|⟨g,cap,cur,rfl,hg,r⟩
 ·exact .inl h2
 ·exact .inr ⟨g,cap,cur,rfl,by omega,r⟩
theorem Bx.grown {g:Nat} {a w w':World} {row:Option Nat} (h:Bx g a w) (hg:w.grownBy w' row) (hr:∀ k,row=some k->a.heap.size<=k):Bx g a w' :=
 ⟨hg.os.trans h.os,hg.tape.trans h.tape,hg.output.trans h.output,Nat.le_trans h.size hg.size,fun k hk hkg=>by
  have hs:=h.size;rw [hg.block k (by omega) (fun e=>by have:=hr k e.symm;omega)];exact h.block k hk hkg⟩
theorem Rd.grown {B:Nat} {w w':World} {g:Nat} {v:Value} {n:Nat} {p:Int} {row:Option Nat} (h:Rd B w g v n p) (hg:w.grownBy w' row) (hr:∀ k,row=some k->g<k):Rd B w' g v n p:=by
 have hl:=h.blk.lt;have hh:=h.here;have hs:=h.size;have same:∀ k,k<=g->w'.heap[k]?=w.heap[k]?:=fun k hk=>hg.block k (by omega) (fun e=>by have:=hr k e.symm;omega);refine ⟨by unfold Bk;rw [same g (Nat.le_refl _)];exact h.blk,?_,h.few,h.here,Nat.le_trans h.size hg.size⟩;obtain ⟨a,cap,rfl,h1,h2,h3⟩:=h.bytes;refine ⟨a,cap,rfl,h1,h2,fun i hi=>?_⟩;obtain ⟨b,off,z,rfl,hb',hc,h4,h5⟩:=h3 i hi;exact ⟨b,off,z,rfl,hb',by rw [World.cell?_of_block (w:=w) (same b (by omega))];exact hc,h4,h5⟩
theorem l71Times_any {B:Nat} {w:World} {g:Nat} {v:Value} {n:Nat} {p:Int} (h:Rd B w g v n p) (hp:0<=p) (hp':p<=800000) (most:Int) (hm0:0<=most) (hm1:most<=100) :
  Calls Tryz.prog 201 #[.pointer (some ⟨g,0,none⟩), .int .i64 most] w fun e w'=>∃ (o:Value) (l:LI),e= .returned o/\l.length<=100/\Own w' w.heap.size o l/\(∃ p':Int,p<=p'/\p'<=p+400/\Rd B w' g v n p')/\Bx g w w':=by
 obtain ⟨i0,hi,hz0,hz1,hz2⟩:=info_parts infoT;have hg:=h.blk.lt;have hh:=h.here;have hs:=h.size;have h0:=h.keepb (bAz (Below.refl _ _) (.cells #[] 32));have x0:Bx g w (w.alloc (.cells #[] 32)):=(Bx.refl _ _).alloc _;have o0:=own_empty w 32 2;go_enter Tryz.func201,Tryz.ntmps201;go_wp2_with fail;refine (pA h0 hp (by omega) _ (by omega) (by omega)).mono ?_;rintro e w1 ⟨k,rfl,hk0,hk1,hr1,hx1⟩;have o1:=oX o0 hx1 hg;have x1:=x0.trans hx1;clear o0 x0 h0 hx1;go_wp2_with fail
 go_loopw [5,6] (fun o i wr=>∃ (m:Nat) (l:LI) (p':Int),(m:Int)<=most/\i= .int .i64 m/\(l.length:Int)+m<=most/\Own wr w.heap.size o l/\p<=p'/\p'<=p+1+3*l.length/\Rd B wr g v n p'/\Bx g w wr) (fun _ i _=>(intOf i).toNat)
 case atStart =>
  obtain ⟨m,rfl⟩:=Int.eq_ofNat_of_zero_le hk0;exact ⟨m,[],p+1,by omega,rfl,by simp;omega,o1,by omega,by simp,hr1,x1⟩
 case round =>
  clear o1 x1 hr1;obtain ⟨m,l,p',hm,rfl,hlm,hown,hpp,hpq,hr,hx⟩:=hrel;have HO:=(show Hid _ from hown);have HP:=(show Hid _ from hpq);clear hown
  by_cases hlt:0<m
  ·go_wp2_with fail;refine (l71Time_any hr (by omega) (by omega)).mono ?_;rintro e w2 ⟨a,b,rfl,ha0,ha1,hb0,hb1,⟨p2,hp1,hp2,hr2⟩,hx2⟩;have hown:=oX HO.out hx2 hg;have hx':=hx.trans hx2;have hsz:=hx'.size;have hl100:l.length<=100:=by omega
   have HQ:=HP;clear HP hpq
   go_wp2_with (at_builtin;refine wpList_append_lies _ rfl _ _ 27 rfl w.heap.size 32 i0 (.agg #[.int .i64 0, .int .i64 0]) 2 16 Tryz.underlying27 hi hz0 hz1 hz2 rfl (by decide) _ _ _ rfl (hown.alloc _) ⟨w2.heap.size,0,none⟩ 1 1 [.int .i64 a, .int .i64 b] rfl rfl (news2 _ _ _ _) (ones2 _ _) (by omega) (by unfold maxLen;omega) (by omega) (by simp;omega) (w2.heap.size+1) (by simp) ?_;intro g3 cap w3 hown3 hgrow hat hlg)
   have hown4:Own w3 w.heap.size (.slice (some ⟨g3,0,none⟩) (l.length+1) cap) (l++[(a,b)]):=by
    show w3.ownsRow _ _ _ _ _ _
    rw [cellsL_snoc];simpa using hown3
   have hr3:Rd B w3 g v n p2:=(hr2.keepb (bAz (Below.refl _ _) _)).grown hgrow (fun k e=>by have:=own_base hown k e;omega);have hx3:Bx g w w3:=(hx'.alloc _).grown hgrow (own_base hown);exact ⟨⟨m-1,l++[(a,b)],p2,by omega,by congr 1;omega,by simp;omega,hown4,by omega,by have:=HQ.out;simp;omega,hr3,hx3⟩,by simp [intOf];omega⟩
  ·obtain rfl:m=0:=by omega
   go_wp2_with fail;go_ret;exact ⟨_,l,rfl,by omega,HO.out,⟨p',hpp,by omega,hr⟩,hx⟩
def aokB (l:LI):Bool:=(List.range l.length).all fun i=>okB (tA l i) (tB l i)
theorem aok_false {l:LI} {k:Nat} (hk:k<l.length) (h:okB (tA l k) (tB l k)=false):aokB l=false:=by
 unfold aokB;rw [List.all_eq_false];exact ⟨k,by simpa using hk,by simp [h]⟩
theorem aok_true {l:LI} (h:∀ j,j<l.length->okB (tA l j) (tB l j)=true):aokB l=true:=by
 unfold aokB;rw [List.all_eq_true];intro j hj;exact h j (by simpa using hj)
def eqAt (l:LI) (a b:Int) (i:Nat):Bool:=decide (tA l i=a/\tB l i=b)
def lowAt (l:LI) (a b:Int) (i:Nat):Bool:=!eqAt l a b i&&leB (tA l i) (tB l i) a b
def memTo (l:LI) (a b:Int) (m:Nat):Bool:=(List.range m).any (eqAt l a b)
def lowTo (l:LI) (a b:Int) (m:Nat):Bool:=(List.range m).any (lowAt l a b)
def leastB (l:LI) (a b:Int):Bool:=memTo l a b l.length&&!lowTo l a b l.length
def gA (i:Nat):Int:=((i / 8:Nat):Int)
def gB (i:Nat):Int:=7-((i%8:Nat):Int)
theorem gA_at {k j:Nat} (hj:j<8):gA (8*k+j)=k:=by unfold gA;omega
theorem gB_at {k j:Nat} (hj:j<8):gB (8*k+j)=7-(j:Int):=by unfold gB;omega
def frTo (l:LI) (n:Nat):LI:=((List.range n).filter fun i=>leastB l (gA i) (gB i)).map fun i=>(gA i,gB i)
def frontL (l:LI):LI:=if aokB l then frTo l 64 else []
theorem memTo_succ (l:LI) (a b:Int) (m:Nat):memTo l a b (m+1)=(memTo l a b m||eqAt l a b m):=by
 unfold memTo;rw [List.range_succ,List.any_append];simp
theorem lowTo_succ (l:LI) (a b:Int) (m:Nat):lowTo l a b (m+1)=(lowTo l a b m||lowAt l a b m):=by
 unfold lowTo;rw [List.range_succ,List.any_append];simp
theorem frTo_len (l:LI) (n:Nat):(frTo l n).length<=n:=by
 unfold frTo;rw [List.length_map];exact Nat.le_trans (List.length_filter_le _ _) (by simp)
theorem frTo_yes (l:LI) {k j:Nat} (hj:j<8) (h:leastB l k (7-(j:Int))=true):frTo l (8*k+(j+1))=frTo l (8*k+j)++[((k:Int),7-(j:Int))]:=by
 have h':leastB l (gA (8*k+j)) (gB (8*k+j))=true:=by rw [gA_at hj,gB_at hj];exact h
 unfold frTo;rw [<- Nat.add_assoc,List.range_succ,List.filter_append,List.map_append,List.filter_cons_of_pos (p:=fun i=>leastB l (gA i) (gB i)) h',List.filter_nil,List.map_cons,List.map_nil,gA_at hj,gB_at hj]
theorem frTo_no (l:LI) {k j:Nat} (hj:j<8) (h:leastB l k (7-(j:Int))=false):frTo l (8*k+(j+1))=frTo l (8*k+j):=by
 have h':¬ leastB l (gA (8*k+j)) (gB (8*k+j))=true:=by rw [gA_at hj,gB_at hj,h];simp
 unfold frTo;rw [<- Nat.add_assoc,List.range_succ,List.filter_append,List.map_append,List.filter_cons_of_neg (p:=fun i=>leastB l (gA i) (gB i)) h',List.filter_nil,List.map_nil,List.append_nil]
theorem l1Ok_any (v:Value) (l:LI) (w:World) (h:Ts w v l) :
  Calls Tryz.prog 185 #[v] w fun e w'=>e= .returned (.bool (aokB l))/\Below w.heap.size w w':=by
 obtain ⟨a,cap,rfl,hc,hm,hn,hcells⟩:=h;unfold maxLen at hm;have HC:=(show Hid _ from hcells);clear hcells;go_enter Tryz.func185,Tryz.ntmps185;go_wp2_with fail
 go_loopw [3] (fun i wr=>∃ k:Nat,k<=l.length/\i= .int .i64 k/\(∀ j,j<k->okB (tA l j) (tB l j)=true)/\Below w.heap.size w wr) (fun i _=>l.length-(intOf i).toNat)
 case atStart=>exact ⟨0,by omega,rfl,fun j hj=>by omega,Below.refl _ _⟩
 case round =>
  obtain ⟨k,hk,rfl,hall,hb⟩:=hrel;have HA:=(show Hid _ from hall);clear hall
  by_cases hlt:k<l.length
  ·obtain ⟨g,off,rfl,hg,c0,c1⟩:=HC.out k hlt;have d0:=cB hb c0;have d1:=cB hb c1;clear c0 c1;generalize hX:tA l k=X at *;generalize hY:tB l k=Y at *;have EX:Hid (tA l k=X):=hX;have EY:Hid (tB l k=Y):=hY;clear hX hY;cases ho:okB X Y
   ·have HK:Hid (aokB l=false):=aok_false hlt (by rw [EX.out,EY.out];exact ho);go_wp2_with fail;refine (specOk_eq ho _).mono ?_;rintro e w1 ⟨rfl,hb1⟩;go_wp2_with fail;go_ret;exact ⟨rB HK.out.symm,bSz hb hb1⟩
   ·have HK:Hid (okB (tA l k) (tB l k)=true):=by show _=true;rw [EX.out,EY.out];exact ho
    go_wp2_with fail;refine (specOk_eq ho _).mono ?_;rintro e w1 ⟨rfl,hb1⟩;have hbw:=bSz hb hb1;go_wp2_with fail;go_roundw
    case rel =>
     refine ⟨k+1,by omega,by go_num,fun j hj=>?_,hbw⟩
     by_cases e:j=k
     ·subst e;exact HK.out
     ·exact HA.out j (by omega)
    case measure=>simp [intOf];omega
  ·have HK:Hid (aokB l=true):=aok_true fun j hj=>HA.out j (by omega);go_wp2_with fail;go_ret;exact ⟨rB HK.out.symm,hb⟩
theorem specFrontOf_any (v:Value) (l:LI) (w:World) (h:Ts w v l) :
  Calls Tryz.prog 131 #[v] w fun e w'=>∃ o:Value,e= .returned o/\Own w' w.heap.size o (frontL l)/\Below w.heap.size w w':=by
 obtain ⟨i0,hi,hz0,hz1,hz2⟩:=info_parts infoT;have hb0:Below w.heap.size w (w.alloc (.cells #[] 32)):=bAz (Below.refl _ _) _;have o0:=own_empty w 32 2;go_enter Tryz.func131,Tryz.ntmps131;go_wp2_with fail;refine (l1Ok_any v l _ (h.keep hb0)).mono ?_;rintro e w1 ⟨rfl,hb1⟩;have hbw1:=bSz hb0 hb1;have o1:=oKz o0 hb1;clear o0 hb0 hb1;cases hok:aokB l
 ·have HK:Hid (frontL l=[]):=by show _=[];simp [frontL,hok]
  go_wp2_with fail;go_ret;refine ⟨_,rfl,?_,hbw1⟩;rw [HK.out];exact o1
 have HK:Hid (frontL l=frTo l 64):=by show _=_;simp [frontL,hok]
 clear hok;obtain ⟨a,cap,rfl,hc,hm,hn,hcells⟩:=h;unfold maxLen at hm;have HC:=(show Hid _ from hcells);clear hcells;generalize hN:l.length=n at *;have HN:Hid (l.length=n):=hN;clear hN;go_wp2_with fail
 go_loopw [3,4] (fun o i wr=>∃ k:Nat,k<=8/\i= .int .i64 k/\Own wr w.heap.size o (frTo l (8*k))/\Below w.heap.size w wr) (fun _ i _=>8-(intOf i).toNat)
 case atStart=>exact ⟨0,by omega,rfl,o1,hbw1⟩
 case round =>
  clear o1 hbw1;obtain ⟨k,hk,rfl,hown,hb⟩:=hrel;have HO:=(show Hid _ from hown);clear hown
  by_cases hlt:k<8
  ·have hk7:decide ((k:Int)<=7)=true:=by simp;omega
   go_wp2_with fail
   go_loopw [3,5] (fun o i wq=>∃ j:Nat,j<=8/\i= .int .i64 (7-(j:Int))/\Own wq w.heap.size o (frTo l (8*k+j))/\Below w.heap.size w wq) (fun _ i _=>(intOf i+1).toNat)
   case atStart=>exact ⟨0,by omega,rfl,HO.out,hb⟩
   case round =>
    clear HO hb;obtain ⟨j,hj,rfl,hown,hb⟩:=hrel;have HO:=(show Hid _ from hown);clear hown
    by_cases hjt:j<8
    ·have hj7:decide ((j:Int)<=7)=true:=by simp;omega
     have hj8:decide (0<=7-(j:Int))=true:=by simp;omega
     have bt0:=Bk.new (w:=wr) #[.int .i64 (k:Int), .int .i64 (7-(j:Int))] 32 rfl;have hbt:=bAz hb (.cells #[.int .i64 (k:Int), .int .i64 (7-(j:Int))] 32);have OT:=(show Hid _ from oKz HO.out (bAz (Below.refl _ wr) (.cells #[.int .i64 (k:Int), .int .i64 (7-(j:Int))] 32)));clear HO hb;go_wp2_with fail;generalize (wr.alloc (.cells #[.int .i64 (k:Int), .int .i64 (7-(j:Int))] 32))=wt at *;generalize wr.heap.size=tb at *
     go_loopw [7,8] (fun lb i wq=>∃ m:Nat,m<=n/\i= .int .i64 m/\lb= .bool (memTo l k (7-(j:Int)) m)/\Below wt.heap.size wt wq) (fun _ i _=>n-(intOf i).toNat)
     case atStart=>exact ⟨0,by omega,rfl,rfl,Below.refl _ _⟩
     case round =>
      obtain ⟨m,hmn,rfl,rfl,hb⟩:=hrel
      by_cases hmt:m<n
      ·obtain ⟨g,off,rfl,hg,c0,c1⟩:=HC.out m hmt;have d0:=cB hb (cB hbt c0);have d1:=cB hb (cB hbt c1);clear c0 c1;obtain ⟨t0,t1,_,_⟩:=(bt0.keep hb).two;have HS:=(show Hid _ from memTo_succ l k (7-(j:Int)) m);have HE:=(show Hid (eqAt l k (7-(j:Int)) m=decide (tA l m=k/\tB l m=7-(j:Int))) from rfl);generalize hX:tA l m=X at *;generalize hY:tB l m=Y at *;clear hX hY;have im:((m:Int)<(n:Int)):=by omega
       by_cases hXk:X=k
       ·by_cases hYj:Y=7-(j:Int)
        ·subst hXk hYj;go_wp2_with fail
         go_quiet (fail)
         go_wp2_with fail;go_roundw
         case rel=>exact ⟨m+1,by omega,by go_num,by rw [HS.out,HE.out];simp,bDz hb _⟩
         case measure=>simp [intOf];omega
        ·subst hXk;have ny:(Y==7-(j:Int))=false:=beq_eq_false_iff_ne.2 hYj;go_wp2_with fail
         go_quiet (fail)
         go_wp2_with fail;go_roundw
         case rel=>exact ⟨m+1,by omega,by go_num,by rw [HS.out,HE.out];simp [hYj],bDz hb _⟩
         case measure=>simp [intOf];omega
       ·have nx:(X==(k:Int))=false:=beq_eq_false_iff_ne.2 hXk;go_wp2_with fail
        go_quiet (fail)
        go_wp2_with fail;go_roundw
        case rel=>exact ⟨m+1,by omega,by go_num,by rw [HS.out,HE.out];simp [hXk],bDz hb _⟩
        case measure=>simp [intOf];omega
      ·obtain rfl:m=n:=by omega
       obtain ⟨w5,hw5⟩:∃ w5,w5=wr:=⟨_,rfl⟩;subst hw5;have hb5:=bSz hbt hb;have bt5:=bt0.keep hb;have O5:=(show Hid _ from oKz OT.out hb);have HL:Hid (leastB l k (7-(j:Int))=(memTo l k (7-(j:Int)) m&&!lowTo l k (7-(j:Int)) m)):=by show _=_;unfold leastB;rw [HN.out]
       clear hb hbt bt0 OT;generalize hme:memTo l k (7-(j:Int)) m=me at *;clear hme;go_wp2_with fail
       go_loopw [7,9] (fun lb i wq=>∃ q:Nat,q<=m/\i= .int .i64 q/\lb= .bool (me&&!lowTo l k (7-(j:Int)) q)/\Below w5.heap.size w5 wq) (fun _ i _=>m-(intOf i).toNat)
       case atStart=>exact ⟨0,by omega,rfl,by simp [lowTo],Below.refl _ _⟩
       case round =>
        obtain ⟨q,hqm,rfl,rfl,hb⟩:=hrel
        by_cases hqt:q<m
        ·obtain ⟨g,off,rfl,hg,c0,c1⟩:=HC.out q hqt;have HS:=(show Hid _ from lowTo_succ l k (7-(j:Int)) q);have HE:=(show Hid (lowAt l k (7-(j:Int)) q=(!decide (tA l q=k/\tB l q=7-(j:Int))&&leB (tA l q) (tB l q) k (7-(j:Int)))) from rfl);generalize hX:tA l q=X at *;generalize hY:tB l q=Y at *;clear hX hY;generalize hlo:lowTo l k (7-(j:Int)) q=lo at *;clear hlo;have d0:∀ p:Bel wr,p.ww.cell? ⟨g,off+q*2,none⟩=some (.int .i64 X):=fun p=>cB p.below (cB hb (cB hb5 c0));have d1:∀ p:Bel wr,p.ww.cell? ⟨g,off+q*2+1,none⟩=some (.int .i64 Y):=fun p=>cB p.below (cB hb (cB hb5 c1));have t0:=(bt5.keep hb).bel0;have t1:=(bt5.keep hb).bel1;have hne:=bel_some wr;clear c0 c1;have iq:((q:Int)<(m:Int)):=by omega
         by_cases heq:X=k/\Y=7-(j:Int)
         ·obtain ⟨rfl,rfl⟩:=heq;go_wp2_with fail
          (refine wBz (by kernel_rfl) (by kernel_rfl) ?_;(repeat (go_big_quiet_step ((first|(go_at_call 129;exact clz (specLess_eq (by with_reducible assumption) _))))));refine wpQuiet_nil ?_)
          intro w6 hw6
          replace hw6:=bOz hw6
          have hb6:=bSz hb hw6;go_wp2_with fail;go_roundw
          case rel=>exact ⟨q+1,by omega,by go_num,by rw [HS.out,HE.out];simp,hb6⟩
          case measure=>simp [intOf];omega
         ·have hor:(X==(k:Int))=false\/(X=k/\(Y==7-(j:Int))=false):=by
           by_cases hx:X=k
           ·exact .inr ⟨hx,beq_eq_false_iff_ne.2 fun h=>heq ⟨hx,h⟩⟩
           ·exact .inl (beq_eq_false_iff_ne.2 hx)
          have hde:decide (X=k/\Y=7-(j:Int))=false:=by simpa using heq
          cases hp:leB X Y k (7-(j:Int))
          ·have hfi:Hid ((lo||(!decide (X=k/\Y=7-(j:Int))&&leB X Y k (7-(j:Int))))=lo):=by show _=lo;rw [hde,hp];simp
           clear heq hde
           rcases hor with nx|⟨rfl,ny⟩
           all_goals go_wp2_with fail
           all_goals (refine wBz (by kernel_rfl) (by kernel_rfl) ?_;(repeat (go_big_quiet_step ((first|(go_at_call 129;exact clz (specLess_eq (by with_reducible assumption) _))))));refine wpQuiet_nil ?_)
           all_goals intro w6 hw6
           all_goals replace hw6:=bOz hw6
           all_goals have hb6:=bSz hb hw6
           all_goals go_wp2_with fail
           all_goals go_roundw
           case rel=>exact ⟨q+1,by omega,by go_num,by rw [HS.out,HE.out,hfi.out],hb6⟩
           case measure=>simp [intOf];omega
           case rel=>exact ⟨q+1,by omega,by go_num,by rw [HS.out,HE.out,hfi.out],hb6⟩
           case measure=>simp [intOf];omega
          ·have hfi:Hid ((lo||(!decide (X=k/\Y=7-(j:Int))&&leB X Y k (7-(j:Int))))=true):=by show _=true;rw [hde,hp];simp
           clear heq hde
           rcases hor with nx|⟨rfl,ny⟩
           all_goals go_wp2_with fail
           all_goals (refine wBz (by kernel_rfl) (by kernel_rfl) ?_;(repeat (go_big_quiet_step ((first|(go_at_call 129;exact clz (specLess_eq (by with_reducible assumption) _))))));refine wpQuiet_nil ?_)
           all_goals intro w6 hw6
           all_goals replace hw6:=bOz hw6
           all_goals have hb6:=bSz hb hw6
           all_goals go_wp2_with fail
           all_goals go_roundw
           case rel=>exact ⟨q+1,by omega,by go_num,by rw [HS.out,HE.out,hfi.out];simp,hb6⟩
           case measure=>simp [intOf];omega
           case rel=>exact ⟨q+1,by omega,by go_num,by rw [HS.out,HE.out,hfi.out];simp,hb6⟩
           case measure=>simp [intOf];omega
        ·obtain rfl:q=m:=by omega
         have OW:=oKz O5.out hb;have hbw:=bSz hb5 hb;obtain ⟨t0,t1,_,_⟩:=(bt5.keep hb).two;have hlen:=frTo_len l (8*k+j);have HL2:=HL;cases hle:(me&&!lowTo l k (7-(j:Int)) q)
         ·have HZ:Hid (frTo l (8*k+(j+1))=frTo l (8*k+j)):=frTo_no l hjt (by rw [HL2.out];exact hle);have HOW:=(show Hid _ from OW);clear OW;go_wp2_with fail;go_roundw
          case rel =>
           refine ⟨j+1,by omega,by go_num,?_,hbw⟩;rw [HZ.out];exact HOW.out
          case measure=>simp [intOf];omega
         ·have HZ:Hid (frTo l (8*k+(j+1))=frTo l (8*k+j)++[((k:Int),7-(j:Int))]):=frTo_yes l hjt (by rw [HL2.out];exact hle);have hsz:=hbw.size
          go_wp2_with (at_builtin;refine wpList_append_lies _ rfl _ _ 27 rfl w.heap.size 32 i0 (.agg #[.int .i64 0, .int .i64 0]) 2 16 Tryz.underlying27 hi hz0 hz1 hz2 rfl (by decide) _ _ _ rfl (OW.alloc _) ⟨wr.heap.size,0,none⟩ 1 1 [.int .i64 (k:Int), .int .i64 (7-(j:Int))] rfl rfl (news2 _ _ _ _) (ones2 _ _) (by omega) (by unfold maxLen;omega) (by omega) (by simp;omega) (wr.heap.size+1) (by simp) ?_;intro g3 cap3 w3 hown3 hgrow hat hlg)
          have hb3:Below w.heap.size w w3:=(bAz hbw _).grown hgrow (by simp;omega) (own_base OW);go_roundw
          case rel =>
           refine ⟨j+1,by omega,by go_num,?_,hb3⟩;rw [HZ.out]
           show w3.ownsRow _ _ _ _ _ _
           rw [cellsL_snoc];simpa using hown3
          case measure=>simp [intOf];omega
    ·obtain rfl:j=8:=by omega
     go_wp2_with fail;go_roundw
     case rel=>exact ⟨k+1,by omega,by go_num,HO.out,hb⟩
     case measure=>simp [intOf];omega
  ·obtain rfl:k=8:=by omega
   go_wp2_with fail;go_ret;refine ⟨_,rfl,?_,hb⟩;rw [HK.out];exact HO.out
end Go.Proofs.YtbdpcngcbnoioaaGreatDoor
