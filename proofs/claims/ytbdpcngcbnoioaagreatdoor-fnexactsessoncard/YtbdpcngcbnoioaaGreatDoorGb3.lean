import Derived.Test.YtbdpcngcbnoioaaGreatDoorGb1
import Derived.Sort.Grow
set_option maxRecDepth 100000
set_option maxHeartbeats 16000000
namespace Go.Proofs.YtbdpcngcbnoioaaGreatDoor
open Go.RowKit
def cmpZ (a b:Int):Int:=if a<b then -1 else if a>b then 1 else 0
theorem isNaN_any (a:Int) (w:World):Calls Tryz.prog 167 #[.int .i64 a] w fun e w'=>e= .returned (.bool false)/\w'=w:=by
 go_enter Tryz.func167,Tryz.ntmps167
 go_wp2
 go_ret;exact ⟨rB (by simp),rfl⟩
theorem compare_any (a b:Int) (w:World):Calls Tryz.prog 97 #[.int .i64 a, .int .i64 b] w fun e w'=>e= .returned (.int .i64 (cmpZ a b))/\w'=w:=by
 by_cases h1:a<b
 ·have e:cmpZ a b = -1:=by simp [cmpZ,h1]
  go_enter Tryz.func97,Tryz.ntmps97
  go_wp2_with (go_at_call 167;refine (isNaN_any _ _).mono ?_;rintro e w' ⟨rfl,rfl⟩)
  go_ret;exact ⟨by rw [e];rfl,rfl⟩
 by_cases h2:a>b
 ·have e:cmpZ a b=1:=by simp [cmpZ,h1,h2]
  go_enter Tryz.func97,Tryz.ntmps97
  go_wp2_with (go_at_call 167;refine (isNaN_any _ _).mono ?_;rintro e w' ⟨rfl,rfl⟩)
  go_ret;exact ⟨by rw [e];rfl,rfl⟩
 ·have e:cmpZ a b=0:=by simp [cmpZ,h1,h2]
  go_enter Tryz.func97,Tryz.ntmps97
  go_wp2_with (go_at_call 167;refine (isNaN_any _ _).mono ?_;rintro e w' ⟨rfl,rfl⟩)
  go_ret;exact ⟨by rw [e];rfl,rfl⟩
theorem retI {k:IntKind} {a b:Int} (h:a=b):Ending.returned (.int k a)= .returned (.int k b):=by rw [h]
def orZ (x y:Int):Int:=if x=0 then y else x
theorem or2_any (g:Nat) (x y:Int) (w:World) (c0:w.cell? ⟨g,0,none⟩=some (.int .i64 x)) (c1:w.cell? ⟨g,1,none⟩=some (.int .i64 y)) :
  Calls Tryz.prog 159 #[.slice (some ⟨g,0,none⟩) 2 2] w fun e w'=>e= .returned (.int .i64 (orZ x y))/\w'=w:=by
 have H:Hid (orZ x y=if x=0 then y else x):=rfl
 by_cases h0:x=0
 ·subst h0
  by_cases h1:y=0
  ·subst h1;go_enter Tryz.func159,Tryz.ntmps159;go_wp2_with fail
   go_rounds 3
   go_returns
   exact ⟨rfl,rfl⟩
  ·have n1:(y==0)=false:=by simpa using h1
   go_enter Tryz.func159,Tryz.ntmps159;go_wp2_with fail
   go_rounds 3
   go_returns
   exact ⟨rfl,rfl⟩
 ·have n0:(x==0)=false:=by simpa using h0
  go_enter Tryz.func159,Tryz.ntmps159;go_wp2_with fail
  go_rounds 3
  go_returns
  exact ⟨retI (by rw [H.out,if_neg h0]),rfl⟩
theorem or3_any (g:Nat) (x y z:Int) (w:World) (c0:w.cell? ⟨g,0,none⟩=some (.int .i64 x)) (c1:w.cell? ⟨g,1,none⟩=some (.int .i64 y)) (c2:w.cell? ⟨g,2,none⟩=some (.int .i64 z)) :
  Calls Tryz.prog 159 #[.slice (some ⟨g,0,none⟩) 3 3] w fun e w'=>e= .returned (.int .i64 (orZ x (orZ y z)))/\w'=w:=by
 have H:Hid (orZ x (orZ y z)=if x=0 then (if y=0 then z else y) else x):=rfl
 by_cases h0:x=0
 ·subst h0
  by_cases h1:y=0
  ·subst h1
   by_cases h2:z=0
   ·subst h2;go_enter Tryz.func159,Tryz.ntmps159;go_wp2_with fail
    go_rounds 4
    go_returns
    exact ⟨rfl,rfl⟩
   ·have n2:(z==0)=false:=by simpa using h2
    go_enter Tryz.func159,Tryz.ntmps159;go_wp2_with fail
    go_rounds 4
    go_returns
    exact ⟨rfl,rfl⟩
  ·have n1:(y==0)=false:=by simpa using h1
   go_enter Tryz.func159,Tryz.ntmps159;go_wp2_with fail
   go_rounds 4
   go_returns
   exact ⟨retI (by rw [H.out];simp [h1]),rfl⟩
 ·have n0:(x==0)=false:=by simpa using h0
  go_enter Tryz.func159,Tryz.ntmps159;go_wp2_with fail
  go_rounds 4
  go_returns
  exact ⟨retI (by rw [H.out,if_neg h0]),rfl⟩
attribute [local go_sem ↓] Go.wp_at_zero Go.wp_at_succ
def Gr (w w':World):Prop:=Below w.heap.size w w'/\w.drawn<=w'.drawn
theorem gr_grow {w w':World} (h:Gr w w'):∃ q os,w'=Go.Sort.grow (w.drewN q) os:=by
 obtain ⟨hb,hd⟩:=h;refine ⟨w'.drawn-w.drawn,(w'.heap.toList.drop w.heap.size).toArray,?_⟩;have hh:w'.heap=w.heap++(w'.heap.toList.drop w.heap.size).toArray:=by
  apply Array.ext_getElem?
  intro i
  by_cases hi:i<w.heap.size
  ·rw [hb.block i hi,Array.getElem?_append_left hi]
  ·rw [Array.getElem?_append_right (by omega)];simp
   congr 1
   omega
 obtain ⟨h1,h2,h3,h4,h5⟩:=w';simp only [Go.Sort.grow,World.drewN]
 congr 1
 ·exact hb.tape
 ·show h3=w.drawn+(h3-w.drawn);have:w.drawn<=h3:=hd;omega
 ·exact hb.os
 ·exact hb.output
theorem Gr.refl (w:World):Gr w w:=⟨Below.refl _ _,Nat.le_refl _⟩
theorem Gr.trans {a b c:World} (h:Gr a b) (k:Gr b c):Gr a c:=⟨bSz h.1 k.1,Nat.le_trans h.2 k.2⟩
theorem Gr.alloc {a b:World} (h:Gr a b) (o:Obj):Gr a (b.alloc o):=⟨bAz h.1 o,h.2⟩
theorem Gr.drew {a b:World} (h:Gr a b):Gr a b.drew:=⟨h.1.drew,Nat.le_succ_of_le h.2⟩
theorem compareT_any (a b c d:Int) (w:World) :
  Calls Tryz.prog 160 #[tv a b,tv c d] w fun e w'=>e= .returned (.int .i64 (orZ (cmpZ a c) (cmpZ b d)))/\Gr w w':=by
 have b0:=(Bk.new (w:=w) #[.int .i64 a, .int .i64 b] 32 rfl).alloc (.cells #[.int .i64 c, .int .i64 d] 32);have b1:=Bk.new (w:=w.alloc (.cells #[.int .i64 a, .int .i64 b] 32)) (k:=w.heap.size+1) #[.int .i64 c, .int .i64 d] 32 (by simp);have hg:=((Gr.refl w).alloc (.cells #[.int .i64 a, .int .i64 b] 32)).alloc (.cells #[.int .i64 c, .int .i64 d] 32);go_enter Tryz.func160,Tryz.ntmps160;go_wp2_with fail;generalize World.alloc _ _=W at *;have HK:Hid (∀ w',Below W.heap.size W w'->w'.cell? ⟨w.heap.size,0,none⟩=some (.int .i64 a)/\w'.cell? ⟨w.heap.size,1,none⟩=some (.int .i64 b)/\w'.cell? ⟨w.heap.size+1,0,none⟩=some (.int .i64 c)/\w'.cell? ⟨w.heap.size+1,1,none⟩=some (.int .i64 d)) :=
  fun w' h=>⟨(b0.keep h).two.1,(b0.keep h).two.2.1,(b1.keep h).two.1,(b1.keep h).two.2.1⟩
 have hbd:Below W.heap.size W W.drew:=(Below.refl _ _).drew;clear b0 b1
 go_region_held3 (fun w'=>w'.cell? ⟨w.heap.size,0,none⟩=some (.int .i64 a)/\w'.cell? ⟨w.heap.size,1,none⟩=some (.int .i64 b)/\w'.cell? ⟨w.heap.size+1,0,none⟩=some (.int .i64 c)/\w'.cell? ⟨w.heap.size+1,1,none⟩=some (.int .i64 d))
  (first|exact HK.out _ (by with_reducible assumption)|exact HK.out _ (bAz (by with_reducible assumption) _))
  (first
   | (go_at_call 97;refine (compare_any _ _ _).mono ?_;rintro e w' ⟨rfl,rfl⟩)
   | (go_at_call 159;refine (or2_any _ _ _ _ (Bk.new _ _ rfl).drew.two.1 (Bk.new _ _ rfl).drew.two.2.1).mono ?_;rintro e w' ⟨rfl,rfl⟩))
 go_wp2_with fail;go_ret;exact ⟨rfl,(hg.alloc _).drew⟩
theorem compareI_any (a b c x y z:Int) (w:World) :
  Calls Tryz.prog 143 #[iv a b c,iv x y z] w fun e w'=>e= .returned (.int .i64 (orZ (cmpZ a x) (cmpZ b y)))/\Gr w w':=by
 have b0:=(Bk.new (w:=w) #[.int .i64 a, .int .i64 b, .int .i64 c] 98 rfl).alloc (.cells #[.int .i64 x, .int .i64 y, .int .i64 z] 98);have b1:=Bk.new (w:=w.alloc (.cells #[.int .i64 a, .int .i64 b, .int .i64 c] 98)) (k:=w.heap.size+1) #[.int .i64 x, .int .i64 y, .int .i64 z] 98 (by simp);have hg:=((Gr.refl w).alloc (.cells #[.int .i64 a, .int .i64 b, .int .i64 c] 98)).alloc (.cells #[.int .i64 x, .int .i64 y, .int .i64 z] 98);go_enter Tryz.func143,Tryz.ntmps143;go_wp2_with fail;generalize World.alloc _ _=W at *;have HK:Hid (∀ w',Below W.heap.size W w'->w'.cell? ⟨w.heap.size,0,none⟩=some (.int .i64 a)/\w'.cell? ⟨w.heap.size,1,none⟩=some (.int .i64 b)/\w'.cell? ⟨w.heap.size+1,0,none⟩=some (.int .i64 x)/\w'.cell? ⟨w.heap.size+1,1,none⟩=some (.int .i64 y)) :=
  fun w' h=>⟨(b0.keep h).three.1,(b0.keep h).three.2.1,(b1.keep h).three.1,(b1.keep h).three.2.1⟩
 have hbd:Below W.heap.size W W.drew:=(Below.refl _ _).drew;clear b0 b1
 go_region_held3 (fun w'=>w'.cell? ⟨w.heap.size,0,none⟩=some (.int .i64 a)/\w'.cell? ⟨w.heap.size,1,none⟩=some (.int .i64 b)/\w'.cell? ⟨w.heap.size+1,0,none⟩=some (.int .i64 x)/\w'.cell? ⟨w.heap.size+1,1,none⟩=some (.int .i64 y))
  (first|exact HK.out _ (by with_reducible assumption)|exact HK.out _ (bAz (by with_reducible assumption) _))
  (first
   | (go_at_call 97;refine (compare_any _ _ _).mono ?_;rintro e w' ⟨rfl,rfl⟩)
   | (go_at_call 159;refine (or2_any _ _ _ _ (Bk.new _ _ rfl).drew.two.1 (Bk.new _ _ rfl).drew.two.2.1).mono ?_;rintro e w' ⟨rfl,rfl⟩))
 go_wp2_with fail;go_ret;exact ⟨rfl,(hg.alloc _).drew⟩
theorem compareR_any (k v a b d k' v' a' b' d':Int) (w:World) :
  Calls Tryz.prog 91 #[rv k v a b d,rv k' v' a' b' d'] w fun e w'=>e= .returned (.int .i64 (orZ (cmpZ k k') (orZ (cmpZ v v') (orZ (cmpZ a a') (cmpZ b b')))))/\Gr w w':=by
 have b0:=(Bk.new (w:=w) #[.int .i64 k, .int .i64 v, .int .i64 a, .int .i64 b, .int .i64 d] 55 rfl).alloc (.cells #[.int .i64 k', .int .i64 v', .int .i64 a', .int .i64 b', .int .i64 d'] 55);have b1:=Bk.new (w:=w.alloc (.cells #[.int .i64 k, .int .i64 v, .int .i64 a, .int .i64 b, .int .i64 d] 55)) (k:=w.heap.size+1) #[.int .i64 k', .int .i64 v', .int .i64 a', .int .i64 b', .int .i64 d'] 55 (by simp);have hg:=((Gr.refl w).alloc (.cells #[.int .i64 k, .int .i64 v, .int .i64 a, .int .i64 b, .int .i64 d] 55)).alloc (.cells #[.int .i64 k', .int .i64 v', .int .i64 a', .int .i64 b', .int .i64 d'] 55);go_enter Tryz.func91,Tryz.ntmps91;go_wp2_with fail;generalize World.alloc _ _=W at *;have HK:Hid (∀ w',Below W.heap.size W w'->(w'.cell? ⟨w.heap.size,0,none⟩=some (.int .i64 k)/\w'.cell? ⟨w.heap.size,1,none⟩=some (.int .i64 v)/\w'.cell? ⟨w.heap.size,2,none⟩=some (.int .i64 a)/\w'.cell? ⟨w.heap.size,3,none⟩=some (.int .i64 b)) /\
   w'.cell? ⟨w.heap.size+1,0,none⟩=some (.int .i64 k')/\w'.cell? ⟨w.heap.size+1,1,none⟩=some (.int .i64 v')/\w'.cell? ⟨w.heap.size+1,2,none⟩=some (.int .i64 a')/\w'.cell? ⟨w.heap.size+1,3,none⟩=some (.int .i64 b')) :=
  fun w' h=>⟨⟨(b0.keep h).five.1,(b0.keep h).five.2.1,(b0.keep h).five.2.2.1,(b0.keep h).five.2.2.2.1⟩,(b1.keep h).five.1,(b1.keep h).five.2.1,(b1.keep h).five.2.2.1,(b1.keep h).five.2.2.2.1⟩
 have hbd:Below W.heap.size W W.drew:=(Below.refl _ _).drew;have hgd:Gr W W.drew:=(Gr.refl _).drew;clear b0 b1
 go_region_held3 (fun w'=>(w'.cell? ⟨w.heap.size,0,none⟩=some (.int .i64 k)/\w'.cell? ⟨w.heap.size,1,none⟩=some (.int .i64 v)/\w'.cell? ⟨w.heap.size,2,none⟩=some (.int .i64 a)/\w'.cell? ⟨w.heap.size,3,none⟩=some (.int .i64 b)) /\
   w'.cell? ⟨w.heap.size+1,0,none⟩=some (.int .i64 k')/\w'.cell? ⟨w.heap.size+1,1,none⟩=some (.int .i64 v')/\w'.cell? ⟨w.heap.size+1,2,none⟩=some (.int .i64 a')/\w'.cell? ⟨w.heap.size+1,3,none⟩=some (.int .i64 b'))
  (first|exact HK.out _ (by with_reducible assumption)|exact HK.out _ (bAz (by with_reducible assumption) _))
  (first
   | (go_at_call 97;refine (compare_any _ _ _).mono ?_;rintro e w' ⟨rfl,rfl⟩)
   | (go_at_call 160;refine (compareT_any _ _ _ _ _).mono ?_;rintro e wj ⟨rfl,hgj⟩;have hgw:=hgd.trans hgj;have hbj:=hgw.1)
   | (go_at_call 159;refine (or3_any _ _ _ _ _ (Bk.new _ _ rfl).three.1 (Bk.new _ _ rfl).three.2.1 (Bk.new _ _ rfl).three.2.2).mono ?_;rintro e w' ⟨rfl,rfl⟩))
 go_wp2_with fail;go_ret;exact ⟨rfl,(hg.trans hgw).alloc _⟩
theorem cmpZ_or (a c b d:Int):orZ (cmpZ a c) (cmpZ b d)=cmpT (a,b) (c,d):=by
 simp only [orZ,cmpZ,cmpT,ltT,decide_eq_true_eq]
 repeat' split
 all_goals omega
theorem cmpS_or (k v a b k' v' a' b':Int):orZ (cmpZ k k') (orZ (cmpZ v v') (orZ (cmpZ a a') (cmpZ b b')))=cmpS ((k,v),(a,b)) ((k',v'),(a',b')):=by
 simp only [orZ,cmpZ,cmpS,ltS_iff]
 repeat' split
 all_goals omega
def nth4 (x0 x1 x2 x3:Int) (i:Nat):Int:=if i=0 then x0 else if i=1 then x1 else if i=2 then x2 else x3
theorem lex_lt {k v a b k' v' a' b':Int} {n:Nat} (hn:n<4) (h:∀ j,j<n->nth4 k v a b j=nth4 k' v' a' b' j) (hl:nth4 k v a b n<nth4 k' v' a' b' n):cmpS ((k,v),(a,b)) ((k',v'),(a',b')) = -1:=by
 have:ltS ((k,v),(a,b)) ((k',v'),(a',b'))=true:=by
  rw [ltS_iff];obtain rfl|rfl|rfl|rfl:n=0\/n=1\/n=2\/n=3:=by omega
  ·simp [nth4] at hl;simp;omega
  ·have:=h 0 (by omega);simp [nth4] at hl this;simp;omega
  ·have:=h 0 (by omega);have:=h 1 (by omega);simp [nth4] at *;omega
  ·have:=h 0 (by omega);have:=h 1 (by omega);have:=h 2 (by omega);simp [nth4] at *;omega
 simp [cmpS,this]
theorem lex_gt {k v a b k' v' a' b':Int} {n:Nat} (hn:n<4) (h:∀ j,j<n->nth4 k v a b j=nth4 k' v' a' b' j) (hl:nth4 k' v' a' b' n<nth4 k v a b n):cmpS ((k,v),(a,b)) ((k',v'),(a',b'))=1:=by
 have h1:ltS ((k',v'),(a',b')) ((k,v),(a,b))=true:=by
  have:=lex_lt hn (fun j hj=>(h j hj).symm) hl;unfold cmpS at this;cases e:ltS ((k',v'),(a',b')) ((k,v),(a,b))
  ·rw [e] at this;simp at this;split at this<;>omega
  ·rfl
 have h2:ltS ((k,v),(a,b)) ((k',v'),(a',b'))=false:=by
  cases e:ltS ((k,v),(a,b)) ((k',v'),(a',b'))
  ·rfl
  ·have:=ltS_ord.trans _ _ _ e h1;rw [ltS_ord.irr] at this;cases this
 simp [cmpS,h1,h2]
theorem lex_eq {k v a b k' v' a' b':Int} (h:∀ j,j<4->nth4 k v a b j=nth4 k' v' a' b' j):cmpS ((k,v),(a,b)) ((k',v'),(a',b'))=0:=by
 have h0:=h 0 (by omega);have h1:=h 1 (by omega);have h2:=h 2 (by omega);have h3:=h 3 (by omega);simp [nth4] at h0 h1 h2 h3;subst h0 h1 h2 h3;simp [cmpS,ltS_ord.irr]
theorem Bk.four {w:World} {g:Nat} {x0 x1 x2 x3:Int} {t:TypeId} (h:Bk w g #[.int .i64 x0, .int .i64 x1, .int .i64 x2, .int .i64 x3] t) {n:Nat} (hn:n<4):w.cell? ⟨g,n,none⟩=some (.int .i64 (nth4 x0 x1 x2 x3 n)):=by
 obtain rfl|rfl|rfl|rfl:n=0\/n=1\/n=2\/n=3:=by omega
 all_goals exact h.cell rfl
theorem l2Comp_any (k v a b d k' v' a' b' d':Int) (w:World) :
  Calls Tryz.prog 187 #[rv k v a b d,rv k' v' a' b' d'] w fun e w'=>e= .returned (.int .i64 (cmpS ((k,v),(a,b)) ((k',v'),(a',b'))))/\Below w.heap.size w w':=by
 go_enter Tryz.func187,Tryz.ntmps187;go_wp2_with fail;have bx:=(Bk.new (w:=(w.alloc (.cells #[.int .i64 k, .int .i64 v, .int .i64 a, .int .i64 b, .int .i64 d] 55)).alloc (.cells #[.int .i64 k', .int .i64 v', .int .i64 a', .int .i64 b', .int .i64 d'] 55)) (k:=w.heap.size+1+1) #[.int .i64 k, .int .i64 v, .int .i64 a, .int .i64 b] 3 (by simp)).alloc (.cells #[.int .i64 k', .int .i64 v', .int .i64 a', .int .i64 b'] 3);have by':=Bk.new (w:=((w.alloc (.cells #[.int .i64 k, .int .i64 v, .int .i64 a, .int .i64 b, .int .i64 d] 55)).alloc (.cells #[.int .i64 k', .int .i64 v', .int .i64 a', .int .i64 b', .int .i64 d'] 55)).alloc (.cells #[.int .i64 k, .int .i64 v, .int .i64 a, .int .i64 b] 3)) (k:=w.heap.size+1+1+1) #[.int .i64 k', .int .i64 v', .int .i64 a', .int .i64 b'] 3 (by simp);have hb0:=bAz (bAz (bAz (bAz (Below.refl w.heap.size w) (.cells #[.int .i64 k, .int .i64 v, .int .i64 a, .int .i64 b, .int .i64 d] 55)) (.cells #[.int .i64 k', .int .i64 v', .int .i64 a', .int .i64 b', .int .i64 d'] 55)) (.cells #[.int .i64 k, .int .i64 v, .int .i64 a, .int .i64 b] 3)) (.cells #[.int .i64 k', .int .i64 v', .int .i64 a', .int .i64 b'] 3);generalize World.alloc _ _=W at *;have HL1:Hid (∀ n,n<4->(∀ j,j<n->nth4 k v a b j=nth4 k' v' a' b' j)->nth4 k v a b n<nth4 k' v' a' b' n->cmpS ((k,v),(a,b)) ((k',v'),(a',b')) = -1):=fun n h1 h2 h3=>lex_lt h1 h2 h3;have HL2:Hid (∀ n,n<4->(∀ j,j<n->nth4 k v a b j=nth4 k' v' a' b' j)->nth4 k' v' a' b' n<nth4 k v a b n->cmpS ((k,v),(a,b)) ((k',v'),(a',b'))=1):=fun n h1 h2 h3=>lex_gt h1 h2 h3;have HL3:Hid ((∀ j,j<4->nth4 k v a b j=nth4 k' v' a' b' j)->cmpS ((k,v),(a,b)) ((k',v'),(a',b'))=0):=fun h=>lex_eq h
 go_loopw [7] (fun i wr=>∃ n:Nat,n<=4/\i= .int .i64 n/\(∀ j,j<n->nth4 k v a b j=nth4 k' v' a' b' j)/\Below W.heap.size W wr) (fun i _=>4-(intOf i).toNat)
 case atStart=>exact ⟨0,by omega,rfl,fun j hj=>by omega,Below.refl _ _⟩
 case round =>
  obtain ⟨n,hn,rfl,hall,hb⟩:=hrel;have HA:=(show Hid _ from hall);clear hall;have hbw:=bSz hb0 hb
  by_cases hlt:n<4
  ·have d0:=(bx.keep hb).four hlt;have d1:=(by'.keep hb).four hlt;have K1:=(show Hid _ from HL1.out n hlt HA.out);have K2:=(show Hid _ from HL2.out n hlt HA.out);have K3:Hid (nth4 k v a b n=nth4 k' v' a' b' n->∀ j,j<n+1->nth4 k v a b j=nth4 k' v' a' b' j):=fun e j hj=>by
    by_cases ej:j=n
    ·rw [ej];exact e
    ·exact HA.out j (by omega)
   generalize nth4 k v a b n=X at *;generalize nth4 k' v' a' b' n=Y at *;have ik:((n:Int)<4):=by omega
   by_cases h1:X<Y
   ·have HK:Hid (cmpS ((k,v),(a,b)) ((k',v'),(a',b')) = -1):=K1.out h1;go_wp2_with fail
    go_quiet (fail)
    go_wp2_with fail;go_ret;exact ⟨retI HK.out.symm,bDz hbw _⟩
   ·by_cases h2:Y<X
    ·have HK:Hid (cmpS ((k,v),(a,b)) ((k',v'),(a',b'))=1):=K2.out h2;go_wp2_with fail
     go_quiet (fail)
     go_wp2_with fail
     go_quiet (fail)
     go_wp2_with fail;go_ret;exact ⟨retI HK.out.symm,bDz (bDz hbw _) _⟩
    ·have HK:=(show Hid _ from K3.out (by omega));go_wp2_with fail
     go_quiet (fail)
     go_wp2_with fail
     go_quiet (fail)
     go_wp2_with fail;go_roundw
     case rel=>exact ⟨n+1,by omega,by go_num,HK.out,bDz hb _⟩
     case measure=>simp [intOf];omega
  ·have HK:Hid (cmpS ((k,v),(a,b)) ((k',v'),(a',b'))=0):=HL3.out fun j hj=>HA.out j (by omega);go_wp2_with fail;go_ret;exact ⟨retI HK.out.symm,hbw⟩
theorem l2Comp_eq {k v a b d k' v' a' b' d' r:Int} (h:cmpS ((k,v),(a,b)) ((k',v'),(a',b'))=r) (w:World) :
  Calls Tryz.prog 187 #[rv k v a b d,rv k' v' a' b' d'] w fun e w'=>e= .returned (.int .i64 r)/\Below w.heap.size w w':=by
 rw [<- h];exact l2Comp_any k v a b d k' v' a' b' d' w
theorem compareR_eq {k v a b d k' v' a' b' d' r:Int} (h:cmpS ((k,v),(a,b)) ((k',v'),(a',b'))=r) (w:World) :
  Calls Tryz.prog 91 #[rv k v a b d,rv k' v' a' b' d'] w fun e w'=>e= .returned (.int .i64 r)/\Below w.heap.size w w':=by
 rw [<- h,<-cmpS_or];refine (compareR_any k v a b d k' v' a' b' d' w).mono ?_;rintro e w' ⟨he,hg⟩;exact ⟨he,hg.1⟩
theorem upto_st {l:List Rw} {k:Nat} (h:∀ j,j<k->bstep l j=true) (hk:bstep l k=true) {j:Nat} (hj:j<k+1):bstep l j=true:=by
 by_cases e:j=k
 ·subst e;exact hk
 ·exact h j (by omega)
theorem sB (v:Value) (l:List Rw) (w:World) (h:Rs w v l) :
  Calls Tryz.prog 136 #[v] w fun e w'=>e= .returned (.bool (bokB l))/\Below w.heap.size w w':=by
 cases hro:rokB l
 ·have HK:Hid (bokB l=false):=bok_nr hro;go_enter Tryz.func136,Tryz.ntmps136;go_wp2_with fail;refine (sR hro h).mono ?_;rintro e w1 ⟨rfl,hb1⟩;go_wp2_with fail;go_ret;exact ⟨rB HK.out.symm,hb1⟩
 have HY:Hid ((∀ i,i<l.length->bstep l i=true)->bokB l=true):=fun h=>bok_mk hro h;have HN:Hid (∀ i,i<l.length->bstep l i=false->bokB l=false):=fun i h1 h2=>bok_no h1 h2;go_enter Tryz.func136,Tryz.ntmps136;go_wp2_with fail;refine (sR hro h).mono ?_;rintro e w0 ⟨rfl,hb0⟩;obtain ⟨a,cap,rfl,hc,hm,hn,hcells⟩:=Rs.open (h.keep hb0);unfold maxLen at hm;have HC:=(show Hid _ from hcells);clear hcells h hro;go_wp2_with fail
 go_loopw [3] (fun i wr=>∃ k:Nat,k<=l.length/\i= .int .i64 k/\(∀ j,j<k->bstep l j=true)/\Below w0.heap.size w0 wr) (fun i _=>l.length-(intOf i).toNat)
 case atStart=>exact ⟨0,by omega,rfl,fun j hj=>by omega,Below.refl _ _⟩
 case round =>
  obtain ⟨k,hk,rfl,hall,hb⟩:=hrel;have HA:=(show Hid _ from hall);clear hall;have hbw:=bSz hb0 hb
  by_cases hlt:k<l.length
  ·obtain ⟨g,off,K,V,A,B,D,rfl,hg,hr,c0,c1,c2,c3,c4⟩:=HC.out k hlt;have d0:∀ p:Bel wr,p.ww.cell? ⟨g,off+k*5,none⟩=some (.int .i64 K):=fun p=>cB p.below (cB hb c0);have d1:∀ p:Bel wr,p.ww.cell? ⟨g,off+k*5+1,none⟩=some (.int .i64 V):=fun p=>cB p.below (cB hb c1);have d2:∀ p:Bel wr,p.ww.cell? ⟨g,off+k*5+2,none⟩=some (.int .i64 A):=fun p=>cB p.below (cB hb c2);have d3:∀ p:Bel wr,p.ww.cell? ⟨g,off+k*5+3,none⟩=some (.int .i64 B):=fun p=>cB p.below (cB hb c3);have d4:∀ p:Bel wr,p.ww.cell? ⟨g,off+k*5+4,none⟩=some (.int .i64 D):=fun p=>cB p.below (cB hb c4);have HR:=(show Hid _ from hr);clear c0 c1 c2 c3 c4 hr;have hne:=bel_some wr;have ik:((k:Int)<(l.length:Int)):=by omega
   by_cases hD:D=0
   ·subst hD;have HK:Hid (bokB l=false):=HN.out k hlt (by
     have hr:=HR.out;unfold bstep;rw [hr];simp)
    go_wp2_with fail
    (refine wBz (by kernel_rfl) (by kernel_rfl) ?_;(repeat (go_big_quiet_step ((first|(go_at_call 187;exact clz (l2Comp_eq (by with_reducible assumption) _))))));refine wpQuiet_nil ?_)
    intro w1 hw1
    replace hw1:=bOz hw1
    go_wp2_with fail;go_ret;exact ⟨rB HK.out.symm,bSz hbw hw1⟩
   have nD:(D==0)=false:=by simpa using hD
   rcases k with _|m
   ·have HST:Hid (bstep l 0=true):=by
     have hr:=HR.out
     show _=true
     rw [bstep_first hr];simpa using hD
    simp only [Nat.zero_mul,Nat.add_zero] at d0 d1 d2 d3 d4;go_wp2_with fail
    (refine wBz (by kernel_rfl) (by kernel_rfl) ?_;(repeat (go_big_quiet_step ((first|(go_at_call 187;exact clz (l2Comp_eq (by with_reducible assumption) _))))));refine wpQuiet_nil ?_)
    intro w1 hw1
    replace hw1:=bOz hw1
    have hb1:=bSz hb hw1;go_wp2_with fail;exact ⟨⟨1,by omega,rfl,fun j hj=>upto_st HA.out HST.out hj,hb1⟩,by simp [intOf];omega⟩
   ·obtain ⟨g',off',K',V',A',B',D',he,hg',hq,p0,p1,p2,p3,p4⟩:=HC.out m (by omega);simp at he;obtain ⟨rfl,rfl⟩:=he;have e0:∀ p:Bel wr,p.ww.cell? ⟨g,off+m*5,none⟩=some (.int .i64 K'):=fun p=>cB p.below (cB hb p0);have e1:∀ p:Bel wr,p.ww.cell? ⟨g,off+m*5+1,none⟩=some (.int .i64 V'):=fun p=>cB p.below (cB hb p1);have e2:∀ p:Bel wr,p.ww.cell? ⟨g,off+m*5+2,none⟩=some (.int .i64 A'):=fun p=>cB p.below (cB hb p2);have e3:∀ p:Bel wr,p.ww.cell? ⟨g,off+m*5+3,none⟩=some (.int .i64 B'):=fun p=>cB p.below (cB hb p3);have e4:∀ p:Bel wr,p.ww.cell? ⟨g,off+m*5+4,none⟩=some (.int .i64 D'):=fun p=>cB p.below (cB hb p4);clear p0 p1 p2 p3 p4;have HST:Hid (bstep l (m+1)=ltS ((K',V'),(A',B')) ((K,V),(A,B))):=by
     have hr:=HR.out
     show _=_
     rw [bstep_next hr hq];have:decide (D≠0)=true:=by simpa using hD
     rw [this,Bool.true_and]
    clear hq;have im0:(0:Int)<=(m:Int):=by omega
    have im1:(m:Int)<(l.length:Int):=by omega
    have im2:(l.length:Int)<=2097152:=by omega
    have iw:IntKind.i64.wrap (m:Int)=(m:Int):=by rw [IntKind.wrap_i64];omega
    have hcl:=cmpS_lt ((K',V'),(A',B')) ((K,V),(A,B));obtain ⟨r,hcr⟩:∃ r,cmpS ((K',V'),(A',B')) ((K,V),(A,B))=r:=⟨_,rfl⟩;rw [hcr] at hcl;cases hst:ltS ((K',V'),(A',B')) ((K,V),(A,B))
    ·have HK:Hid (bokB l=false):=HN.out (m+1) hlt (by rw [HST.out];exact hst);have nr:decide (0<=r)=true:=by rw [hst] at hcl;simp at hcl ⊢;omega
     clear hcl;go_wp2_with fail
     (refine wBz (by kernel_rfl) (by kernel_rfl) ?_;(repeat (go_big_quiet_step ((first|(go_at_call 187;exact clz (l2Comp_eq (by with_reducible assumption) _))))));refine wpQuiet_nil ?_)
     intro w1 hw1
     replace hw1:=bOz hw1
     go_wp2_with fail;go_ret;exact ⟨rB HK.out.symm,bSz hbw hw1⟩
    ·have HK:Hid (bstep l (m+1)=true):=by show _=true;rw [HST.out];exact hst
     have nr:decide (0<=r)=false:=by rw [hst] at hcl;simp at hcl ⊢;omega
     clear hcl;go_wp2_with fail
     (refine wBz (by kernel_rfl) (by kernel_rfl) ?_;(repeat (go_big_quiet_step ((first|(go_at_call 187;exact clz (l2Comp_eq (by with_reducible assumption) _))))));refine wpQuiet_nil ?_)
     intro w1 hw1
     replace hw1:=bOz hw1
     have hb1:=bSz hb hw1;go_wp2_with fail;go_roundw
     case rel=>exact ⟨m+1+1,by omega,by go_num,fun j hj=>upto_st HA.out HK.out hj,hb1⟩
     case measure=>simp [intOf];omega
  ·have HK:Hid (bokB l=true):=HY.out fun j hj=>HA.out j (by omega);go_wp2_with fail;go_ret;exact ⟨rB HK.out.symm,hbw⟩
theorem specBatchOk_eq {l:List Rw} {r:Bool} (h:bokB l=r) {v:Value} {w:World} (hs:Rs w v l) :
  Calls Tryz.prog 136 #[v] w fun e w'=>e= .returned (.bool r)/\Below w.heap.size w w':=by
 rw [<- h];exact sB v l w hs
theorem implBatchOk_any (v:Value) (l:List Rw) (w:World) (h:Rs w v l) :
  Calls Tryz.prog 30 #[v] w fun e w'=>e= .returned (.bool (bokB l))/\Below w.heap.size w w':=by
 cases hro:rokB l
 ·have HK:Hid (bokB l=false):=bok_nr hro;go_enter Tryz.func30,Tryz.ntmps30;go_wp2_with fail;refine (iR hro h).mono ?_;rintro e w1 ⟨rfl,hb1⟩;go_wp2_with fail;go_ret;exact ⟨rB HK.out.symm,hb1⟩
 have HY:Hid ((∀ i,i<l.length->bstep l i=true)->bokB l=true):=fun h=>bok_mk hro h;have HN:Hid (∀ i,i<l.length->bstep l i=false->bokB l=false):=fun i h1 h2=>bok_no h1 h2;go_enter Tryz.func30,Tryz.ntmps30;go_wp2_with fail;refine (iR hro h).mono ?_;rintro e w0 ⟨rfl,hb0⟩;obtain ⟨a,cap,rfl,hc,hm,hn,hcells⟩:=Rs.open (h.keep hb0);unfold maxLen at hm;have HC:=(show Hid _ from hcells);clear hcells h hro;go_wp2_with fail
 go_loopw [10] (fun i wr=>∃ k:Nat,k<=l.length/\i= .int .i64 k/\(∀ j,j<k->bstep l j=true)/\Below w0.heap.size w0 wr) (fun i _=>l.length-(intOf i).toNat)
 case atStart=>exact ⟨0,by omega,rfl,fun j hj=>by omega,Below.refl _ _⟩
 case round =>
  obtain ⟨k,hk,rfl,hall,hb⟩:=hrel;have HA:=(show Hid _ from hall);clear hall
  by_cases hlt:k<l.length
  ·obtain ⟨g,off,K,V,A,B,D,rfl,hg,hr,c0,c1,c2,c3,c4⟩:=HC.out k hlt;have d0:=cB hb c0;have d1:=cB hb c1;have d2:=cB hb c2;have d3:=cB hb c3;have d4:=cB hb c4;have HR:=(show Hid _ from hr);clear c0 c1 c2 c3 c4 hr;have ik:((k:Int)<(l.length:Int)):=by omega
   have bt0:=Bk.new (w:=wr) #[.int .i64 K, .int .i64 V, .int .i64 A, .int .i64 B, .int .i64 D] 55 rfl;have hbt:Below wr.heap.size wr (wr.alloc (.cells #[.int .i64 K, .int .i64 V, .int .i64 A, .int .i64 B, .int .i64 D] 55)):=bAz (Below.refl _ _) _;have hb':=bSz hb hbt;have hbw:=bSz hb0 hb'
   go_upto_region 6 with fail
   clear d0 d1 d2 d3 d4;generalize wr.heap.size=tb at *;generalize World.alloc _ _=wt at *;have t0:∀ p:Bel wt,p.ww.cell? ⟨tb,0,none⟩=some (.int .i64 K):=fun p=>(bt0.keep p.below).five.1;have t1:∀ p:Bel wt,p.ww.cell? ⟨tb,1,none⟩=some (.int .i64 V):=fun p=>(bt0.keep p.below).five.2.1;have t2:∀ p:Bel wt,p.ww.cell? ⟨tb,2,none⟩=some (.int .i64 A):=fun p=>(bt0.keep p.below).five.2.2.1;have t3:∀ p:Bel wt,p.ww.cell? ⟨tb,3,none⟩=some (.int .i64 B):=fun p=>(bt0.keep p.below).five.2.2.2.1;have t4:∀ p:Bel wt,p.ww.cell? ⟨tb,4,none⟩=some (.int .i64 D):=fun p=>(bt0.keep p.below).five.2.2.2.2;have hne:=bel_some wt;clear bt0 hbt hb
   by_cases hD:D=0
   ·subst hD;have HK:Hid (bokB l=false):=HN.out k hlt (by
     have hr:=HR.out;unfold bstep;rw [hr];simp)
    go_wp2_with fail
    (refine wBz (by kernel_rfl) (by kernel_rfl) ?_;(repeat (go_big_quiet_step ((first|(go_at_call 91;exact clz (compareR_eq (by with_reducible assumption) _))))));refine wpQuiet_nil ?_)
    intro w1 hw1
    replace hw1:=bOz hw1
    go_wp2_with fail;go_ret;exact ⟨rB HK.out.symm,bSz hbw hw1⟩
   have nD:(D==0)=false:=by simpa using hD
   rcases k with _|m
   ·have HST:Hid (bstep l 0=true):=by
     have hr:=HR.out
     show _=true
     rw [bstep_first hr];simpa using hD
    go_wp2_with fail
    (refine wBz (by kernel_rfl) (by kernel_rfl) ?_;(repeat (go_big_quiet_step ((first|(go_at_call 91;exact clz (compareR_eq (by with_reducible assumption) _))))));refine wpQuiet_nil ?_)
    intro w1 hw1
    replace hw1:=bOz hw1
    have hb1:=bSz hb' hw1;go_wp2_with fail;exact ⟨⟨1,by omega,rfl,fun j hj=>upto_st HA.out HST.out hj,hb1⟩,by simp [intOf];omega⟩
   ·obtain ⟨g',off',K',V',A',B',D',he,hg',hq,p0,p1,p2,p3,p4⟩:=HC.out m (by omega);simp at he;obtain ⟨rfl,rfl⟩:=he;have e0:∀ p:Bel wt,p.ww.cell? ⟨g,off+m*5,none⟩=some (.int .i64 K'):=fun p=>cB p.below (cB hb' p0);have e1:∀ p:Bel wt,p.ww.cell? ⟨g,off+m*5+1,none⟩=some (.int .i64 V'):=fun p=>cB p.below (cB hb' p1);have e2:∀ p:Bel wt,p.ww.cell? ⟨g,off+m*5+2,none⟩=some (.int .i64 A'):=fun p=>cB p.below (cB hb' p2);have e3:∀ p:Bel wt,p.ww.cell? ⟨g,off+m*5+3,none⟩=some (.int .i64 B'):=fun p=>cB p.below (cB hb' p3);have e4:∀ p:Bel wt,p.ww.cell? ⟨g,off+m*5+4,none⟩=some (.int .i64 D'):=fun p=>cB p.below (cB hb' p4);clear p0 p1 p2 p3 p4;have HST:Hid (bstep l (m+1)=ltS ((K',V'),(A',B')) ((K,V),(A,B))):=by
     have hr:=HR.out
     show _=_
     rw [bstep_next hr hq];have:decide (D≠0)=true:=by simpa using hD
     rw [this,Bool.true_and]
    clear hq;have im0:(0:Int)<=(m:Int):=by omega
    have im1:(m:Int)<(l.length:Int):=by omega
    have im2:(l.length:Int)<=2097152:=by omega
    have iw:IntKind.i64.wrap (m:Int)=(m:Int):=by rw [IntKind.wrap_i64];omega
    have hcl:=cmpS_lt ((K',V'),(A',B')) ((K,V),(A,B));obtain ⟨r,hcr⟩:∃ r,cmpS ((K',V'),(A',B')) ((K,V),(A,B))=r:=⟨_,rfl⟩;rw [hcr] at hcl;cases hst:ltS ((K',V'),(A',B')) ((K,V),(A,B))
    ·have HK:Hid (bokB l=false):=HN.out (m+1) hlt (by rw [HST.out];exact hst);have nr:decide (0<=r)=true:=by rw [hst] at hcl;simp at hcl ⊢;omega
     clear hcl;go_wp2_with fail
     (refine wBz (by kernel_rfl) (by kernel_rfl) ?_;(repeat (go_big_quiet_step ((first|(go_at_call 91;exact clz (compareR_eq (by with_reducible assumption) _))))));refine wpQuiet_nil ?_)
     intro w1 hw1
     replace hw1:=bOz hw1
     go_wp2_with fail;go_ret;exact ⟨rB HK.out.symm,bSz hbw hw1⟩
    ·have HK:Hid (bstep l (m+1)=true):=by show _=true;rw [HST.out];exact hst
     have nr:decide (0<=r)=false:=by rw [hst] at hcl;simp at hcl ⊢;omega
     clear hcl;go_wp2_with fail
     (refine wBz (by kernel_rfl) (by kernel_rfl) ?_;(repeat (go_big_quiet_step ((first|(go_at_call 91;exact clz (compareR_eq (by with_reducible assumption) _))))));refine wpQuiet_nil ?_)
     intro w1 hw1
     replace hw1:=bOz hw1
     have hb1:=bSz hb' hw1;go_wp2_with fail;go_roundw
     case rel=>exact ⟨m+1+1,by omega,by go_num,fun j hj=>upto_st HA.out HK.out hj,hb1⟩
     case measure=>simp [intOf];omega
  ·have HK:Hid (bokB l=true):=HY.out fun j hj=>HA.out j (by omega);go_wp2_with fail;go_ret;exact ⟨rB HK.out.symm,bSz hb0 hb⟩
theorem newsL {w:World} {g:Nat} {c:Array Value} {t:TypeId} (h:Bk w g c t):∀ j u,c.toList[j]?=some u->w.cell? ((⟨g,0,none⟩:Addr).add j)=some u:=by
 intro j u hj;have e:(⟨g,0,none⟩:Addr).add j=⟨g,j,none⟩:=by simp [Addr.add];exact fun h=>h.symm
 rw [e];exact h.cell (by simpa using hj)
theorem onesR (r:Rw):∀ u∈rowC r,u.oneCell'=true:=by
 intro u hu;simp at hu;rcases hu with rfl|rfl|rfl|rfl|rfl<;>rfl
theorem onesI (r:It):∀ u∈itC r,u.oneCell'=true:=by
 intro u hu;simp at hu;rcases hu with rfl|rfl|rfl<;>rfl
section
variable {ops:Array Oper} {rest:List Oper} {o:Oper} {a:Act} {Q:Exit->Act->World->Prop}
theorem appR (w:World) (hgd:o.guard=none) (s x:Operand) (ho:o.op= .call { callee:= .builtin .append,args:=#[s,x],argTypes:=#[28,28] })
  (base:Nat) (v:Value) (l:List Rw) (hs:a.eval s=v) (hown:OwnR w base v l) (g0:Nat) (K V A B D:Int) (hx:a.eval x= .slice (some ⟨g0,0,none⟩) 1 1)
  (hc:Bk w g0 #[.int .i64 K, .int .i64 V, .int .i64 A, .int .i64 B, .int .i64 D] 55) (hl:l.length<=2000000) (hbase:base<=w.heap.size)
  (h:∀ g cap w',OwnR w' base (.slice (some ⟨g,0,none⟩) (l.length+1) cap) (l++[(((K,V),(A,B)),D)])->w.grownBy w' v.ownBlock->g<w'.heap.size->wpList Tryz.prog ops Q rest (a.put o.dst (.slice (some ⟨g,0,none⟩) (l.length+1) cap)) w') :
  wpList Tryz.prog ops Q (o::rest) a w:=by
 obtain ⟨i0,hi,hz0,hz1,hz2⟩:=info_parts infoR;refine wpList_append_lies w hgd s x 28 ho base 55 i0 _ 5 40 Tryz.underlying28 hi hz0 hz1 hz2 rfl (by decide) v l.length (l.flatMap rowC) hs hown ⟨g0,0,none⟩ 1 1 (rowC (((K,V),(A,B)),D)) hx rfl (newsL hc) (onesR _) (by omega) (by unfold maxLen;omega) (by omega) hbase w.heap.size rfl ?_;intro g cap w' h1 h2 _ h4;refine h g cap w' ?_ h2 h4
 show w'.ownsRow _ _ _ _ _ _
 rw [List.flatMap_append];simpa using h1
theorem appI (w:World) (hgd:o.guard=none) (s x:Operand) (ho:o.op= .call { callee:= .builtin .append,args:=#[s,x],argTypes:=#[35,35] })
  (base:Nat) (v:Value) (l:List It) (hs:a.eval s=v) (hown:OwnI w base v l) (g0:Nat) (K V D:Int) (hx:a.eval x= .slice (some ⟨g0,0,none⟩) 1 1)
  (hc:Bk w g0 #[.int .i64 K, .int .i64 V, .int .i64 D] 98) (hl:l.length<=2000000) (hbase:base<=w.heap.size)
  (h:∀ g cap w',OwnI w' base (.slice (some ⟨g,0,none⟩) (l.length+1) cap) (l++[((K,V),D)])->w.grownBy w' v.ownBlock->g<w'.heap.size->wpList Tryz.prog ops Q rest (a.put o.dst (.slice (some ⟨g,0,none⟩) (l.length+1) cap)) w') :
  wpList Tryz.prog ops Q (o::rest) a w:=by
 obtain ⟨i0,hi,hz0,hz1,hz2⟩:=info_parts infoI;refine wpList_append_lies w hgd s x 35 ho base 98 i0 _ 3 24 Tryz.underlying35 hi hz0 hz1 hz2 rfl (by decide) v l.length (l.flatMap itC) hs hown ⟨g0,0,none⟩ 1 1 (itC ((K,V),D)) hx rfl (newsL hc) (onesI _) (by omega) (by unfold maxLen;omega) (by omega) hbase w.heap.size rfl ?_;intro g cap w' h1 h2 _ h4;refine h g cap w' ?_ h2 h4
 show w'.ownsRow _ _ _ _ _ _
 rw [List.flatMap_append];simpa using h1
theorem appT (w:World) (hgd:o.guard=none) (s x:Operand) (ho:o.op= .call { callee:= .builtin .append,args:=#[s,x],argTypes:=#[27,27] })
  (base:Nat) (v:Value) (l:LI) (hs:a.eval s=v) (hown:Own w base v l) (g0:Nat) (A B:Int) (hx:a.eval x= .slice (some ⟨g0,0,none⟩) 1 1)
  (hc:Bk w g0 #[.int .i64 A, .int .i64 B] 32) (hl:l.length<=2000000) (hbase:base<=w.heap.size)
  (h:∀ g cap w',Own w' base (.slice (some ⟨g,0,none⟩) (l.length+1) cap) (l++[(A,B)])->w.grownBy w' v.ownBlock->g<w'.heap.size->wpList Tryz.prog ops Q rest (a.put o.dst (.slice (some ⟨g,0,none⟩) (l.length+1) cap)) w') :
  wpList Tryz.prog ops Q (o::rest) a w:=by
 obtain ⟨i0,hi,hz0,hz1,hz2⟩:=info_parts infoT;refine wpList_append_lies w hgd s x 27 ho base 32 i0 _ 2 16 Tryz.underlying27 hi hz0 hz1 hz2 rfl (by decide) v l.length (cellsL l) hs hown ⟨g0,0,none⟩ 1 1 [.int .i64 A, .int .i64 B] hx rfl (newsL hc) (ones2 _ _) (by omega) (by unfold maxLen;omega) (by omega) hbase w.heap.size rfl ?_;intro g cap w' h1 h2 _ h4;refine h g cap w' ?_ h2 h4
 show w'.ownsRow _ _ _ _ _ _
 rw [cellsL_snoc];simpa using h1
end
theorem oEz (w:World) {B:Nat} (hB:B=w.heap.size):OwnR (w.alloc (.cells #[] 55)) B (.slice (some ⟨B,0,none⟩) 0 0) []:=by
 subst hB;exact own_empty w _ 5
theorem ownI_empty (w:World) {B:Nat} (hB:B=w.heap.size):OwnI (w.alloc (.cells #[] 98)) B (.slice (some ⟨B,0,none⟩) 0 0) []:=by
 subst hB;exact own_empty w _ 3
theorem Below.grew {B:Nat} {w W W':World} {row:Option Nat} (h:Below B w W) (hg:W.grownBy W' row) (hB:B<=W.heap.size) (hr:∀ k,row=some k->B<=k):Below B w W':=h.grown hg hB hr
theorem Bk.grew {w w':World} {g:Nat} {c:Array Value} {t:TypeId} {row:Option Nat} (h:Bk w g c t) (hg:w.grownBy w' row) (hr:∀ k,row=some k->g≠k):Bk w' g c t:=by
 unfold Bk;rw [hg.block g h.lt (fun e=>hr _ e.symm rfl)];exact h
theorem tSz {α:Type} {l:List α} {k:Nat} {x:α} (h:l[k]?=some x):l.take (k+1)=l.take k++[x]:=by
 rw [List.take_add_one,h];rfl
theorem drop_cons {α:Type} {l:List α} {k:Nat} {x:α} (h:l[k]?=some x):l.drop k=x::l.drop (k+1):=by
 have:=(List.getElem?_eq_some_iff.1 h);obtain ⟨h1,h2⟩:=this;rw [List.drop_eq_getElem_cons h1,h2]
inductive PutAt (r:Rw) (l L:List Rw) (k:Nat) (D:Int):Bool->Prop
 | no (h1:L=l.take k) (h2:putL ltS r l=l.take k++putL ltS r (l.drop k)) (h3:D=r.2):PutAt r l L k D false
 | yes (h1:L++l.drop k=putL ltS r l) (h2:L.length<=k+1):PutAt r l L k D true
theorem PutAt.start (r:Rw) (l:List Rw):PutAt r l [] 0 r.2 false:= .no (by simp) (by simp) rfl
theorem PutAt.past {r x:Rw} {l L:List Rw} {k:Nat} {D:Int} (h:PutAt r l L k D true) (hx:l[k]?=some x):PutAt r l (L++[x]) (k+1) D true:=by
 cases h with
 | yes h1 h2=>exact .yes (by rw [List.append_assoc,List.singleton_append,<-drop_cons hx];exact h1) (by simp;omega)
theorem PutAt.before {r x:Rw} {l L:List Rw} {k:Nat} {D:Int} (h:PutAt r l L k D false) (hx:l[k]?=some x) (hlt:ltS x.1 r.1=true):PutAt r l (L++[x]) (k+1) D false:=by
 cases h with
 | no h1 h2 h3 =>
  have hn:ltS r.1 x.1=false:=by
   cases e:ltS r.1 x.1
   ·rfl
   ·have:=ltS_ord.trans _ _ _ e hlt;rw [ltS_ord.irr] at this;cases this
  refine .no (by rw [tSz hx,h1]) ?_ h3;rw [h2,tSz hx,drop_cons hx,List.append_assoc]
  congr 1
  show putL ltS r (x::l.drop (k+1))=x::putL ltS r (l.drop (k+1))
  simp [putL,hn,hlt]
theorem PutAt.here {r x:Rw} {l L:List Rw} {k:Nat} {D:Int} (h:PutAt r l L k D false) (hx:l[k]?=some x) (hlt:ltS r.1 x.1=true):PutAt r l (L++[r]++[x]) (k+1) D true:=by
 cases h with
 | no h1 h2 h3 =>
  have hk:=(List.getElem?_eq_some_iff.1 hx).1;refine .yes ?_ ?_
  ·rw [h2,h1,drop_cons hx];simp [putL,hlt]
  ·rw [h1];simp;omega
theorem PutAt.same {r x:Rw} {l L:List Rw} {k:Nat} {D:Int} (h:PutAt r l L k D false) (hx:l[k]?=some x) (h1':ltS r.1 x.1=false) (h2':ltS x.1 r.1=false) (D':Int):PutAt r l (L++[(r.1,r.2+x.2)]) (k+1) D' true:=by
 cases h with
 | no h1 h2 h3 =>
  have hk:=(List.getElem?_eq_some_iff.1 hx).1;refine .yes ?_ ?_
  ·rw [h2,h1,drop_cons hx];simp [putL,h1',h2']
  ·rw [h1];simp;omega
theorem PutAt.end_no {r:Rw} {l L:List Rw} {k:Nat} {D:Int} (h:PutAt r l L k D false) (hk:l.length<=k):L++[r]=putL ltS r l:=by
 cases h with
 | no h1 h2 h3=>rw [h2,h1,List.drop_eq_nil_of_le hk];rfl
theorem PutAt.end_yes {r:Rw} {l L:List Rw} {k:Nat} {D:Int} (h:PutAt r l L k D true) (hk:l.length<=k):L=putL ltS r l:=by
 cases h with
 | yes h1 h2=>rw [List.drop_eq_nil_of_le hk,List.append_nil] at h1;exact h1
theorem PutAt.len {r:Rw} {l L:List Rw} {k:Nat} {D:Int} {b:Bool} (h:PutAt r l L k D b):L.length<=k+1:=by
 cases h with
 | no h1 h2 h3=>rw [h1];simp;omega
 | yes h1 h2=>exact h2
theorem PutAt.same_d {r:Rw} {l L:List Rw} {k:Nat} {D:Int} (h:PutAt r l L k D false):D=r.2:=by
 cases h with
 | no h1 h2 h3=>exact h3
theorem l2Put_any (v:Value) (l:List Rw) (K V A B D:Int) (w:World) (h:Rs w v l) (hl:l.length<=1000000)
  (hov:∀ x∈l,x.1=((K,V),(A,B)) -> -4611686018427387904<=D+x.2/\D+x.2<=4611686018427387904) :
  Calls Tryz.prog 150 #[v,rv K V A B D] w fun e w'=>∃ o:Value,e= .returned o/\OwnR w' w.heap.size o (putL ltS (((K,V),(A,B)),D) l)/\Below w.heap.size w w':=by
 have b0:=(Bk.new (w:=w) #[.int .i64 K, .int .i64 V, .int .i64 A, .int .i64 B, .int .i64 D] 55 rfl).alloc (.cells #[] 55);have o0:=oEz (w.alloc (.cells #[.int .i64 K, .int .i64 V, .int .i64 A, .int .i64 B, .int .i64 D] 55)) (B:=w.heap.size+1) (by simp);have hb0:=bAz (bAz (Below.refl w.heap.size w) (.cells #[.int .i64 K, .int .i64 V, .int .i64 A, .int .i64 B, .int .i64 D] 55)) (.cells #[] 55);have HOV:Hid _:=hov;obtain ⟨a,cap,rfl,hc,hm,hn,hcells⟩:=Rs.open h;unfold maxLen at hm;have HC:=(show Hid _ from hcells);clear hcells h hov;go_enter Tryz.func150,Tryz.ntmps150;go_wp2_with fail
 go_loopw [5,6,7] (fun o dn i wr=>∃ (k:Nat) (bd:Bool) (L:List Rw) (D':Int),k<=l.length/\i= .int .i64 k/\dn= .bool bd/\PutAt (((K,V),(A,B)),D) l L k D' bd/\OwnR wr (w.heap.size+1) o L/\Bk wr w.heap.size #[.int .i64 K, .int .i64 V, .int .i64 A, .int .i64 B, .int .i64 D'] 55/\w.heap.size+1<=wr.heap.size/\Below w.heap.size w wr) (fun _ _ i _=>l.length-(intOf i).toNat)
 case atStart=>exact ⟨0,false,[],D,by omega,rfl,rfl,PutAt.start _ _,o0,b0,by simp,hb0⟩
 case round =>
  clear o0 b0 hb0;obtain ⟨k,bd,L,D',hk,rfl,rfl,hput,hown,hbk,hsz,hb⟩:=hrel;have HP:=(show Hid _ from hput);have HO:Hid (OwnR wr (w.heap.size+1) u5 L):=hown;have hL:=hput.len;clear hput hown
  by_cases hlt:k<l.length
  ·obtain ⟨g,off,K',V',A',B',D0,rfl,hg,hr,c0,c1,c2,c3,c4⟩:=HC.out k hlt;have d0:∀ p:Bel wr,p.ww.cell? ⟨g,off+k*5,none⟩=some (.int .i64 K'):=fun p=>cB p.below (cB hb c0);have d1:∀ p:Bel wr,p.ww.cell? ⟨g,off+k*5+1,none⟩=some (.int .i64 V'):=fun p=>cB p.below (cB hb c1);have d2:∀ p:Bel wr,p.ww.cell? ⟨g,off+k*5+2,none⟩=some (.int .i64 A'):=fun p=>cB p.below (cB hb c2);have d3:∀ p:Bel wr,p.ww.cell? ⟨g,off+k*5+3,none⟩=some (.int .i64 B'):=fun p=>cB p.below (cB hb c3);have d4:∀ p:Bel wr,p.ww.cell? ⟨g,off+k*5+4,none⟩=some (.int .i64 D0):=fun p=>cB p.below (cB hb c4);have t0:∀ p:Bel wr,p.ww.cell? ⟨w.heap.size,0,none⟩=some (.int .i64 K):=fun p=>(hbk.keep p.below).five.1;have t1:∀ p:Bel wr,p.ww.cell? ⟨w.heap.size,1,none⟩=some (.int .i64 V):=fun p=>(hbk.keep p.below).five.2.1;have t2:∀ p:Bel wr,p.ww.cell? ⟨w.heap.size,2,none⟩=some (.int .i64 A):=fun p=>(hbk.keep p.below).five.2.2.1;have t3:∀ p:Bel wr,p.ww.cell? ⟨w.heap.size,3,none⟩=some (.int .i64 B):=fun p=>(hbk.keep p.below).five.2.2.2.1;have t4:∀ p:Bel wr,p.ww.cell? ⟨w.heap.size,4,none⟩=some (.int .i64 D'):=fun p=>(hbk.keep p.below).five.2.2.2.2;have HR:=(show Hid _ from hr);have HX:Hid (∀ W,Below w.heap.size w W->W.cell? ⟨g,off+k*5,none⟩=some (.int .i64 K')/\W.cell? ⟨g,off+k*5+1,none⟩=some (.int .i64 V')/\W.cell? ⟨g,off+k*5+2,none⟩=some (.int .i64 A')/\W.cell? ⟨g,off+k*5+3,none⟩=some (.int .i64 B')/\W.cell? ⟨g,off+k*5+4,none⟩=some (.int .i64 D0)) :=
    fun W hW=>⟨cB hW c0,cB hW c1,cB hW c2,cB hW c3,cB hW c4⟩
   clear c0 c1 c2 c3 c4 hr;have hne:=bel_some wr;have ik:((k:Int)<(l.length:Int)):=by omega
   have hcl:=cmpS_lt ((K',V'),(A',B')) ((K,V),(A,B));have hcg:=cmpS_gt ((K',V'),(A',B')) ((K,V),(A,B));obtain ⟨r,hcr⟩:∃ r,cmpS ((K',V'),(A',B')) ((K,V),(A,B))=r:=⟨_,rfl⟩;rw [hcr] at hcl hcg;go_wp2_with fail
   (refine wBz (by kernel_rfl) (by kernel_rfl) ?_;(repeat (go_big_quiet_step ((first|(go_at_call 187;exact clz (l2Comp_eq (by with_reducible assumption) _))))));refine wpQuiet_nil ?_)
   intro w1 hw1
   replace hw1:=bOz hw1
   have hb1:=bSz hb hw1;have hbk1:=hbk.keep hw1;have HO1:Hid (OwnR w1 (w.heap.size+1) u5 L):=oK HO.out hw1;have hsz1:w.heap.size+1<=w1.heap.size:=Nat.le_trans hsz hw1.size;obtain ⟨x0,x1,x2,x3,x4⟩:=HX.out w1 hb1;obtain ⟨y0,y1,y2,y3,y4⟩:=hbk1.five;clear d0 d1 d2 d3 d4 t0 t1 t2 t3 t4 hne HO hbk hb;cases bd
   ·have hDD:D'=D:=HP.out.same_d;subst hDD;cases hgt:ltS ((K,V),(A,B)) ((K',V'),(A',B'))
    ·cases hls:ltS ((K',V'),(A',B')) ((K,V),(A,B))
     ·-- the same
      have hkey:=ltS_ord.tri _ _ hls hgt;simp only [Prod.mk.injEq] at hkey;obtain ⟨⟨rfl,rfl⟩,rfl,rfl⟩:=hkey;have hr0:r=0:=by rw [hls] at hcl;rw [hgt] at hcg;simp at hcl hcg;omega
      subst hr0;obtain ⟨ov1,ov2⟩:=HOV.out _ (List.mem_of_getElem? HR.out) rfl;dsimp only at ov1 ov2;have HZ:=(show Hid _ from HP.out.same HR.out hgt hls (D'+D0));have iw:IntKind.i64.wrap (D'+D0)=D'+D0:=by rw [IntKind.wrap_i64];omega
      have f4:=hbk1.free 4;clear hcl hcg hcr hgt hls HP
      go_upto_region 11 with fail
      have hbk2:=(hbk1.set 4 (.int .i64 (D'+D0))).drew;have hb2:Below w.heap.size w (w1.setCell ⟨w.heap.size,4,none⟩ (.int .i64 (D'+D0))).drew:=(hb1.setCell (by simp) _).drew;have O2:OwnR (w1.setCell ⟨w.heap.size,4,none⟩ (.int .i64 (D'+D0))).drew (w.heap.size+1) u5 L:=own_move HO1.out fun q hq _=>Below.heap_setCell _ _ _ _ (by simp;omega);have hs2:w.heap.size+1<=(w1.setCell ⟨w.heap.size,4,none⟩ (.int .i64 (D'+D0))).drew.heap.size:=by simpa using hsz1
      go_region
      generalize World.drew _=w2 at *;have hbk2':Bk w2 w.heap.size #[.int .i64 K', .int .i64 V', .int .i64 A', .int .i64 B', .int .i64 (D'+D0)] 55:=hbk2;obtain ⟨z0,z1,z2,z3,z4⟩:=hbk2'.five;clear x0 x1 x2 x3 x4 y0 y1 y2 y3 y4 f4 hbk2 hbk1 hb1 hw1 HO1
      go_wp2_with (at_builtin;refine appR _ rfl _ _ rfl (w.heap.size+1) _ _ rfl (O2.alloc _) _ _ _ _ _ _ rfl (Bk.new _ _ rfl) (by omega) (by simp;omega) ?_;intro g3 cap3 w3 own3 hgrow hlg)
      have hb3:Below w.heap.size w w3:=Below.grew (bAz hb2 _) hgrow (by simp;omega) (fun q e=>by have:=oB O2 q e;omega);have hbk3:=(hbk2'.alloc _).grew hgrow (fun q e=>by have:=oB O2 q e;omega);have hs3:w.heap.size+1<=w3.heap.size:=by have:=hgrow.size;simp at this;omega
      go_roundw
      case rel=>exact ⟨k+1,true,_,_,by omega,by go_num,rfl,HZ.out,own3,hbk3,hs3,hb3⟩
      case measure=>simp [intOf];omega
     ·-- before
      have hr0:decide (r>0)=false:=by rw [hls] at hcl;rw [hgt] at hcg;simp at hcl hcg ⊢;omega
      have hr1:(r==0)=false:=by rw [hls] at hcl;simp at hcl ⊢;omega
      have HZ:=(show Hid _ from HP.out.before HR.out hls);have O1:=HO1.out;clear hcl hcg hcr hgt hls HP HO1
      go_wp2_with (at_builtin;refine appR _ rfl _ _ rfl (w.heap.size+1) _ _ rfl (O1.alloc _) _ _ _ _ _ _ rfl (Bk.new _ _ rfl) (by omega) (by simp;omega) ?_;intro g3 cap3 w3 own3 hgrow hlg)
      have hb3:Below w.heap.size w w3:=Below.grew (bAz hb1 _) hgrow (by simp;omega) (fun q e=>by have:=oB O1 q e;omega);have hbk3:=(hbk1.alloc _).grew hgrow (fun q e=>by have:=oB O1 q e;omega);have hs3:w.heap.size+1<=w3.heap.size:=by have:=hgrow.size;simp at this;omega
      go_roundw
      case rel=>exact ⟨k+1,false,_,_,by omega,by go_num,rfl,HZ.out,own3,hbk3,hs3,hb3⟩
      case measure=>simp [intOf];omega
    ·-- here
     have hr0:decide (r>0)=true:=by rw [hgt] at hcg;simp at hcg ⊢;omega
     have HZ:=(show Hid _ from HP.out.here HR.out hgt);have O1:=HO1.out;clear hcl hcg hcr hgt HP HO1
     go_upto_region 10 with (at_builtin;refine appR _ rfl _ _ rfl (w.heap.size+1) _ _ rfl (O1.alloc _) _ _ _ _ _ _ rfl (Bk.new _ _ rfl) (by omega) (by simp;omega) ?_;intro g3 cap3 w3 own3 hgrow hlg)
     have hb3:Below w.heap.size w w3:=Below.grew (bAz hb1 _) hgrow (by simp;omega) (fun q e=>by have:=oB O1 q e;omega);have hbk3:=(hbk1.alloc _).grew hgrow (fun q e=>by have:=oB O1 q e;omega);have hs3:w.heap.size+1<=w3.heap.size:=by have:=hgrow.size;simp at this;omega
     obtain ⟨z0,z1,z2,z3,z4⟩:=HX.out w3 hb3;clear x0 x1 x2 x3 x4 y0 y1 y2 y3 y4 hgrow O1 hbk1 hb1 hw1
     go_wp2_with (at_builtin;refine appR _ rfl _ _ rfl (w.heap.size+1) _ _ rfl (own3.alloc _) _ _ _ _ _ _ rfl (Bk.new _ _ rfl) (by simp;omega) (by simp;omega) ?_;intro g5 cap5 w5 own5 hgrow5 hlg5)
     have hb5:Below w.heap.size w w5:=Below.grew (bAz hb3 _) hgrow5 (by simp;omega) (fun q e=>by have:=oB own3 q e;omega);have hbk5:=(hbk3.alloc _).grew hgrow5 (fun q e=>by have:=oB own3 q e;omega);have hs5:w.heap.size+1<=w5.heap.size:=by have:=hgrow5.size;simp at this;omega
     go_roundw
     case rel=>exact ⟨k+1,true,_,_,by omega,by go_num,rfl,HZ.out,by simpa using own5,hbk5,hs5,hb5⟩
     case measure=>simp [intOf];omega
   ·-- past
    have HZ:=(show Hid _ from HP.out.past HR.out);have O1:=HO1.out;clear hcl hcg hcr HP HO1
    go_wp2_with (at_builtin;refine appR _ rfl _ _ rfl (w.heap.size+1) _ _ rfl (O1.alloc _) _ _ _ _ _ _ rfl (Bk.new _ _ rfl) (by omega) (by simp;omega) ?_;intro g3 cap3 w3 own3 hgrow hlg)
    have hb3:Below w.heap.size w w3:=Below.grew (bAz hb1 _) hgrow (by simp;omega) (fun q e=>by have:=oB O1 q e;omega);have hbk3:=(hbk1.alloc _).grew hgrow (fun q e=>by have:=oB O1 q e;omega);have hs3:w.heap.size+1<=w3.heap.size:=by have:=hgrow.size;simp at this;omega
    go_roundw
    case rel=>exact ⟨k+1,true,_,_,by omega,by go_num,rfl,HZ.out,own3,hbk3,hs3,hb3⟩
    case measure=>simp [intOf];omega
  ·cases bd
   ·have HZ:Hid (L++[(((K,V),(A,B)),D)]=putL ltS (((K,V),(A,B)),D) l):=HP.out.end_no (by omega);have hDD:D'=D:=HP.out.same_d;subst hDD;obtain ⟨y0,y1,y2,y3,y4⟩:=hbk.five;have O1:=HO.out;clear HO HP
    go_wp2_with (at_builtin;refine appR _ rfl _ _ rfl (w.heap.size+1) _ _ rfl (O1.alloc _) _ _ _ _ _ _ rfl (Bk.new _ _ rfl) (by omega) (by simp;omega) ?_;intro g3 cap3 w3 own3 hgrow hlg)
    have hb3:Below w.heap.size w w3:=Below.grew (bAz hb _) hgrow (by simp;omega) (fun q e=>by have:=oB O1 q e;omega);go_ret;refine ⟨_,rfl,?_,hb3⟩;rw [<- HZ.out];exact oLz own3 (by omega:w.heap.size<=w.heap.size+1)
   ·have HZ:Hid (L=putL ltS (((K,V),(A,B)),D) l):=HP.out.end_yes (by omega);go_wp2_with fail;go_ret;refine ⟨_,rfl,?_,hb⟩;rw [<- HZ.out];exact oLz HO.out (by omega)
theorem absum_take {K:Type} (l:List (K×Int)) (k:Nat):absum (l.take k)<=absum l:=by
 have:=absum_append (l.take k) (l.drop k);rw [List.take_append_drop] at this;have:=absum_pos (l.drop k);omega
theorem sum_next {l:List Rw} {k:Nat} {r:Rw} (hr:l[k]?=some r) (ha:absum l<=2305843009213693952):∀ x∈sumA ltS (l.take k),x.1=r.1 -> -4611686018427387904<=r.2+x.2/\r.2+x.2<=4611686018427387904:=by
 intro x hx e;have h1:=srt_tot ltS_ord (sumA_srt ltS_ord _) hx;rw [sumA_tot ltS_ord] at h1;have h2:=tot_abs (l.take (k+1)) r.1;rw [tSz hr,tot_snoc,if_pos rfl] at h2;have h3:=absum_take l (k+1);rw [tSz hr] at h3;rw [e] at h1;omega
theorem nz_yes {l:List Rw} {k:Nat} {r:Rw} (hr:l[k]?=some r) (h:r.2≠0):(l.take (k+1)).filter (fun r=>decide (r.2≠0))=(l.take k).filter (fun r=>decide (r.2≠0))++[r]:=by
 rw [tSz hr,List.filter_append];simp [h]
theorem nz_no {l:List Rw} {k:Nat} {r:Rw} (hr:l[k]?=some r) (h:r.2=0):(l.take (k+1)).filter (fun r=>decide (r.2≠0))=(l.take k).filter (fun r=>decide (r.2≠0)):=by
 rw [tSz hr,List.filter_append];simp [h]
theorem l2Sum_any (v:Value) (l:List Rw) (w:World) (h:Rs w v l) (hl:l.length<=1000000) (ha:absum l<=2305843009213693952) :
  Calls Tryz.prog 77 #[v] w fun e w'=>∃ o:Value,e= .returned o/\OwnR w' w.heap.size o (sumL ltS l)/\Below w.heap.size w w':=by
 have o0:=oEz w rfl;have hb0:=bAz (Below.refl w.heap.size w) (.cells #[] 55);have HA:Hid _:=ha;obtain ⟨a,cap,rfl,hc,hm,hn,hcells⟩:=Rs.open h;unfold maxLen at hm;have HC:=(show Hid _ from hcells);clear hcells h ha;go_enter Tryz.func77,Tryz.ntmps77;go_wp2_with fail
 go_loopw [3,4] (fun o i wr=>∃ k:Nat,k<=l.length/\i= .int .i64 k/\OwnR wr w.heap.size o (sumA ltS (l.take k))/\Below w.heap.size w wr) (fun _ i _=>l.length-(intOf i).toNat)
 case atStart=>exact ⟨0,by omega,rfl,o0,hb0⟩
 case round =>
  clear o0 hb0;obtain ⟨k,hk,rfl,hown,hb⟩:=hrel;have HO:Hid (OwnR wr w.heap.size u3 (sumA ltS (l.take k))):=hown;have hL:=sumA_len ltS (l.take k);have hL2:(l.take k).length<=k:=List.length_take_le _ _;clear hown
  by_cases hlt:k<l.length
  ·obtain ⟨g,off,K,V,A,B,D,rfl,hg,hr,c0,c1,c2,c3,c4⟩:=HC.out k hlt;have d0:=cB hb c0;have d1:=cB hb c1;have d2:=cB hb c2;have d3:=cB hb c3;have d4:=cB hb c4;have HN:=(show Hid _ from sum_next hr HA.out);have HS:Hid (sumA ltS (l.take (k+1))=putL ltS (((K,V),(A,B)),D) (sumA ltS (l.take k))):=by show _=_;rw [tSz hr,sumA_snoc]
   have RS:Rs wr u3 (sumA ltS (l.take k)):=OwnR.rs HO.out (by omega);have hz:=hb.size;clear c0 c1 c2 c3 c4 hr;go_wp2_with fail;refine (l2Put_any _ _ _ _ _ _ _ _ RS (by omega) HN.out).mono ?_;rintro e w1 ⟨o1,rfl,own1,hb1⟩;have hbw:=bSz hb hb1;have own2:=oLz own1 hz;rw [<- HS.out] at own2;clear own1 HO RS HN HS;go_wp2_with fail;go_roundw
   case rel=>exact ⟨k+1,by omega,by go_num,own2,hbw⟩
   case measure=>simp [intOf];omega
  ·obtain rfl:k=l.length:=by omega
   have hO:OwnR wr w.heap.size u3 (sumA ltS l):=by have:=HO.out;rwa [List.take_length] at this
   rw [List.take_length] at hL;clear HO;have RS:Rs wr u3 (sumA ltS l):=OwnR.rs hO (by omega);clear hO HC;obtain ⟨W,hW⟩:∃ W,W=wr:=⟨_,rfl⟩;subst hW;have HF:Hid (sumL ltS l=(sumA ltS l).filter fun r=>decide (r.2≠0)):=rfl;generalize sumA ltS l=M at *;obtain ⟨a',cap',rfl,hc',hm',hn',hcells'⟩:=Rs.open RS;unfold maxLen at hm';have HC:=(show Hid _ from hcells');clear hcells' RS hL2;have o0:=oEz W rfl;have hb0:=bAz (Below.refl W.heap.size W) (.cells #[] 55);have hbS:=hb.size;go_wp2_with fail
   go_loopw [5,6] (fun o i wr=>∃ k:Nat,k<=M.length/\i= .int .i64 k/\OwnR wr W.heap.size o ((M.take k).filter fun r=>decide (r.2≠0))/\Below W.heap.size W wr/\Below w.heap.size w wr) (fun _ i _=>M.length-(intOf i).toNat)
   case atStart=>exact ⟨0,by omega,rfl,o0,hb0,bSz hb hb0⟩
   case round =>
    clear o0 hb0 hb;obtain ⟨k,hk,rfl,hown,hb,hbw⟩:=hrel;have HO:Hid (OwnR wr W.heap.size u5 ((M.take k).filter fun r=>decide (r.2≠0))):=hown;have hLk:((M.take k).filter fun r=>decide (r.2≠0)).length<=k:=Nat.le_trans (List.length_filter_le _ _) (List.length_take_le _ _);clear hown
    by_cases hlt:k<M.length
    ·obtain ⟨g,off,K,V,A,B,D,rfl,hg,hr,c0,c1,c2,c3,c4⟩:=HC.out k hlt;have d0:=cB hb c0;have d1:=cB hb c1;have d2:=cB hb c2;have d3:=cB hb c3;have d4:=cB hb c4;clear c0 c1 c2 c3 c4
     by_cases hD:D=0
     ·subst hD;have HZ:=(show Hid _ from nz_no hr rfl);clear hr;go_wp2_with fail;go_roundw
      case rel =>
       refine ⟨k+1,by omega,by go_num,?_,hb,hbw⟩;rw [HZ.out];exact HO.out
      case measure=>simp [intOf];omega
     ·have nD:(D==0)=false:=by simpa using hD
      have HZ:=(show Hid _ from nz_yes hr hD);have O1:OwnR wr W.heap.size u5 ((M.take k).filter fun r=>decide (r.2≠0)):=HO.out;have hz:=hb.size;clear hr HO;generalize ((M.take k).filter fun r=>decide (r.2≠0))=L at *
      go_wp2_with (at_builtin;refine appR _ rfl _ _ rfl W.heap.size _ _ rfl (O1.alloc _) _ _ _ _ _ _ rfl (Bk.new _ _ rfl) (by omega) (by simp;omega) ?_;intro g3 cap3 w3 own3 hgrow hlg)
      have hb3:Below W.heap.size W w3:=Below.grew (bAz hb _) hgrow (by simp;omega) (oB O1);have hbw3:Below w.heap.size w w3:=Below.grew (bAz hbw _) hgrow (by simp;omega) (fun q e=>by have:=oB O1 q e;omega);go_roundw
      case rel =>
       refine ⟨k+1,by omega,by go_num,?_,hb3,hbw3⟩;rw [HZ.out];exact own3
      case measure=>simp [intOf];omega
    ·obtain rfl:k=M.length:=by omega
     go_wp2_with fail;go_ret;refine ⟨_,rfl,?_,hbw⟩;have:=oLz HO.out hbS;rw [List.take_length,<-HF.out] at this;exact this
theorem fit_yes {l:List Rw} (h:bokB l=true):fitL l=l:=by simp [fitL,h]
theorem fit_no {l:List Rw} (h:bokB l=false):fitL l=[]:=by simp [fitL,h]
theorem l2Fit_any {B:Nat} {v:Value} {l:List Rw} {w:World} (h:OwnR w B v l) (hl:l.length<=1000000) (hB:B<=w.heap.size) :
  Calls Tryz.prog 151 #[v] w fun e w'=>∃ o:Value,e= .returned o/\OwnR w' B o (fitL l)/\Below w.heap.size w w':=by
 have RS:=OwnR.rs h (by omega);have HO:Hid (OwnR w B v l):=h;clear h;cases hk:bokB l
 ·have HF:Hid (fitL l=[]):=fit_no hk;go_enter Tryz.func151,Tryz.ntmps151;go_wp2_with fail;refine (specBatchOk_eq hk RS).mono ?_;rintro e w1 ⟨rfl,hb1⟩;have hs:=hb1.size;go_wp2_with fail;go_ret;refine ⟨_,rfl,?_,bAz hb1 _⟩;rw [HF.out];exact oLz (oEz w1 rfl) (by omega)
 ·have HF:Hid (fitL l=l):=fit_yes hk;go_enter Tryz.func151,Tryz.ntmps151;go_wp2_with fail;refine (specBatchOk_eq hk RS).mono ?_;rintro e w1 ⟨rfl,hb1⟩;have O1:Hid (OwnR w1 B v l):=oK HO.out hb1;go_wp2_with fail;go_ret;refine ⟨_,rfl,?_,hb1⟩;rw [HF.out];exact O1.out
theorem rok_abs {l:List Rw} (h:rokB l=true):absum l<=99999*400:=by
 have h1:=absum_le (fun r hr=>rw_diff (rok_at h hr));have h2:=rLz h;have:(99999:Int)*l.length<=99999*400:=Int.mul_le_mul_of_nonneg_left (by omega) (by omega);omega
end Go.Proofs.YtbdpcngcbnoioaaGreatDoor
