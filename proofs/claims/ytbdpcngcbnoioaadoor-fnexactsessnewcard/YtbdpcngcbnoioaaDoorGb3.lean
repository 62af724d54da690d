import Derived.Test.YtbdpcngcbnoioaaDoorGa6
import Derived.Deep.Cut
import Derived.Deep.Strs
import Derived.Sort.Grow
set_option maxHeartbeats 4000000
namespace Go.Proofs.YtbdpcngcbnoioaaDoor
abbrev Sp:=(Int×Int)×(Int×Int)
abbrev Rw:=Sp×Int
open Go.RowKit
section
variable {α:Type}
theorem flat_get {enc:α->List Value} {k:Nat} (hk:∀ x,(enc x).length=k) (l:List α) {i:Nat} {x:α} (h:l[i]?=some x) {j:Nat} (hj:j<k):(l.flatMap enc)[i*k+j]?=(enc x)[j]?:=by
 induction l generalizing i with
 | nil=>simp at h
 | cons y l ih =>
  cases i with
  | zero =>
   simp at h;subst h;rw [List.flatMap_cons,Nat.zero_mul,Nat.zero_add,List.getElem?_append_left (by rw [hk];exact hj)]
  | succ i =>
   have:=ih (i:=i) (by simpa using h);rw [List.flatMap_cons,List.getElem?_append_right (by rw [hk,Nat.add_mul];omega),hk,<-this]
   congr 1
   rw [Nat.add_mul];omega
def SlK (enc:α->List Value) (k:Nat) (w:World) (v:Value) (l:List α):Prop :=
 ∃ a cap,v= .slice a l.length cap/\l.length<=cap/\cap<=maxLen/\l.length<=2097152/\∀ i x,l[i]?=some x->∃ g off,a=some ⟨g,off,none⟩/\g<w.heap.size/\∀ j,j<k->w.cell? ⟨g,off+i*k+j,none⟩=(enc x)[j]?
theorem SlK.keep {enc:α->List Value} {k:Nat} {w w1:World} {v:Value} {l:List α} (h:SlK enc k w v l) (hb:Below w.heap.size w w1):SlK enc k w1 v l:=by
 obtain ⟨a,cap,rfl,h1,h2,h3,h4⟩:=h;refine ⟨a,cap,rfl,h1,h2,h3,fun i x hi=>?_⟩;obtain ⟨g,off,rfl,hg,c⟩:=h4 i x hi;exact ⟨g,off,rfl,Nat.lt_of_lt_of_le hg hb.size,fun j hj=>by rw [hb.cell (p:=⟨g,_,none⟩) hg];exact c j hj⟩
def FillK (enc:α->List Value) (k:Nat) (c:Array Value) (l:List α) (n:Nat):Prop:=∀ i x,i<n->l[i]?=some x->∀ j,j<k->c[i*k+j]?=(enc x)[j]?
abbrev OwnK (enc:α->List Value) (k:Nat) (t:TypeId) (w:World) (B:Nat) (v:Value) (l:List α):Prop:=w.ownsRow B t k v l.length (l.flatMap enc)
theorem ownK_sl {enc:α->List Value} {k:Nat} {t:TypeId} {w:World} {B:Nat} {v:Value} {l:List α} (h:OwnK enc k t w B v l) (hk:∀ x,(enc x).length=k) (hl:l.length<=2097152):SlK enc k w v l:=by
 have hh:=h;obtain ⟨_,h2⟩:=h
 rcases h2 with ⟨rfl,h0⟩|⟨g,cap,cur,rfl,hg,hb,hc,hm,_,_⟩
 ·have:l=[]:=List.eq_nil_of_length_eq_zero h0;subst this;exact ⟨none,0,rfl,Nat.le_refl _,by unfold maxLen;omega,by simp,fun i x hi=>by simp at hi⟩
 ·refine ⟨_,cap,rfl,hc,hm,hl,fun i x hi=>⟨g,0,rfl,lt_of_block hb,fun j hj=>?_⟩⟩;have hi':=(List.getElem?_eq_some_iff.1 hi).1;have:i*k+j<l.length*k:=by
   have:(i+1)*k<=l.length*k:=Nat.mul_le_mul_right k hi';rw [Nat.add_mul] at this;omega
  rw [Nat.zero_add,hh.cellAt _ this,flat_get hk l hi hj]
theorem oN (enc:α->List Value) (k:Nat) (t:TypeId) (w:World) (B:Nat):OwnK enc k t w B (.slice none 0 0) []:=⟨by simp, .inl ⟨rfl,rfl⟩⟩
theorem ownK_open {enc:α->List Value} {k:Nat} {t:TypeId} {w:World} {B:Nat} {v:Value} {l:List α} (h:OwnK enc k t w B v l) (hk:∀ x,(enc x).length=k):(v= .slice none 0 0/\l=[]) \/
  ∃ g cap c,v= .slice (some ⟨g,0,none⟩) l.length cap/\B<=g/\Bk w g c t/\c.size=cap*k/\l.length<=cap/\cap<=maxLen/\FillK enc k c l l.length:=by
 obtain ⟨h1,⟨rfl,h2⟩|⟨g,cap,cur,rfl,hg,hh,hc,hm,hs,ht⟩⟩:=h
 ·exact .inl ⟨rfl,List.eq_nil_of_length_eq_zero h2⟩
 ·refine .inr ⟨g,cap,cur,rfl,hg,hh,hs,hc,hm,fun i x hi hx j hj=>?_⟩;have:i*k+j<l.length*k:=by
   have:(i+1)*k<=l.length*k:=Nat.mul_le_mul_right k hi;rw [Nat.add_mul] at this;omega
  rw [<- flat_get hk l hx hj,<-ht,List.getElem?_take,if_pos this,Array.getElem?_toList]
theorem oA {t:TypeId} {k:Nat} {w w1:World} {B:Nat} {v:Value} {n:Nat} {xs:List Value} (h:w.ownsRow B t k v n xs) (hk:∀ b,v.ownBlock=some b->w1.heap[b]?=w.heap[b]?):w1.ownsRow B t k v n xs:=by
 obtain ⟨h1,h2⟩:=h;refine ⟨h1,?_⟩
 rcases h2 with h2|⟨g,cap,cur,rfl,hg,hh,r⟩
 ·exact .inl h2
 ·exact .inr ⟨g,cap,cur,rfl,hg,by rw [hk g (by simp [Value.ownBlock])];exact hh,r⟩
theorem oT {t:TypeId} {k:Nat} {w:World} {B:Nat} {v:Value} {n:Nat} {xs:List Value} (h:w.ownsRow B t k v n xs) (b:Nat) (e:v.ownBlock=some b):b<w.heap.size:=by
 obtain ⟨h1,⟨rfl,h2⟩|⟨g,cap,cur,rfl,hg,hh,_⟩⟩:=h
 ·simp [Value.ownBlock] at e
 ·simp [Value.ownBlock] at e;subst e;exact lt_of_block hh
theorem oB {t:TypeId} {k:Nat} {w:World} {B:Nat} {v:Value} {n:Nat} {xs:List Value} (h:w.ownsRow B t k v n xs) (b:Nat) (e:v.ownBlock=some b):B<=b:=by
 obtain ⟨h1,⟨rfl,h2⟩|⟨g,cap,cur,rfl,hg,hh,_⟩⟩:=h
 ·simp [Value.ownBlock] at e
 ·simp [Value.ownBlock] at e;subst e;exact hg
end
abbrev rowC (r:Rw):List Value:=[.int .i64 r.1.1.1, .int .i64 r.1.1.2, .int .i64 r.1.2.1, .int .i64 r.1.2.2, .int .i64 r.2]
abbrev rv (k v a b d:Int):Value:= .agg #[.int .i64 k, .int .i64 v, .int .i64 a, .int .i64 b, .int .i64 d]
theorem rowC_len (x:Rw):(rowC x).length=5:=rfl
abbrev Rs (w:World) (v:Value) (l:List Rw):Prop:=SlK rowC 5 w v l
abbrev OwnR (w:World) (B:Nat) (v:Value) (l:List Rw):Prop:=OwnK rowC 5 70 w B v l
theorem OwnR.rs {w:World} {B:Nat} {v:Value} {l:List Rw} (h:OwnR w B v l) (hl:l.length<=2097152):Rs w v l:=ownK_sl h rowC_len hl
theorem Rs.open {w:World} {v:Value} {l:List Rw} (h:Rs w v l):∃ a cap,v= .slice a l.length cap/\l.length<=cap/\cap<=maxLen/\l.length<=2097152 /\
  ∀ i,i<l.length->∃ g off K V A B D,a=some ⟨g,off,none⟩/\g<w.heap.size/\l[i]?=some (((K,V),(A,B)),D)/\w.cell? ⟨g,off+i*5,none⟩=some (.int .i64 K)/\w.cell? ⟨g,off+i*5+1,none⟩=some (.int .i64 V) /\
   w.cell? ⟨g,off+i*5+2,none⟩=some (.int .i64 A)/\w.cell? ⟨g,off+i*5+3,none⟩=some (.int .i64 B)/\w.cell? ⟨g,off+i*5+4,none⟩=some (.int .i64 D):=by
 obtain ⟨a,cap,h0,h1,h2,h3,h4⟩:=h;refine ⟨a,cap,h0,h1,h2,h3,fun i hi=>?_⟩;obtain ⟨g,off,ha,hg,c⟩:=h4 i l[i] (List.getElem?_eq_getElem hi);exact ⟨g,off,_,_,_,_,_,ha,hg,List.getElem?_eq_getElem hi,c 0 (by omega),c 1 (by omega),c 2 (by omega),c 3 (by omega),c 4 (by omega)⟩
theorem Bk.five {w:World} {k:Nat} {x0 x1 x2 x3 x4:Value} {t:TypeId} (h:Bk w k #[x0,x1,x2,x3,x4] t) :
  w.cell? ⟨k,0,none⟩=some x0/\w.cell? ⟨k,1,none⟩=some x1/\w.cell? ⟨k,2,none⟩=some x2/\w.cell? ⟨k,3,none⟩=some x3/\w.cell? ⟨k,4,none⟩=some x4:=by
 unfold Bk at h;simp [World.cell?,h]
theorem eqTime_is (a b:Int) (w:World):Calls Tryd.prog 34 #[tv a b,tv a b] w fun e w'=>e= .returned (.bool true)/\Below w.heap.size w w':=by
 have:=eqTime_any a b a b w;rw [eqB_self] at this;exact this
theorem eqRow_same (k v a b d:Int) (w:World) :
  Calls Tryd.prog 35 #[rv k v a b d,rv k v a b d] w fun e w'=>e= .returned (.bool true)/\Below w.heap.size w w':=by
 go_enter Tryd.func35,Tryd.ntmps35;go_wp2_with fail;refine (eqTime_is _ _ _).mono ?_;rintro e w1 ⟨rfl,hb1⟩;obtain ⟨b0,b1⟩:=boxed2 hb1;obtain ⟨x0,x1,x2,x3,x4⟩:=b0.five;obtain ⟨y0,y1,y2,y3,y4⟩:=b1.five;go_wp2_with fail;go_ret;refine ⟨rfl,?_⟩
 repeat' (first|(with_reducible exact Below.refl _ _)|(with_reducible assumption)|(with_reducible refine bSz ?_ (by with_reducible assumption))|(with_reducible refine bAz ?_ _)|(with_reducible refine Below.drew ?_)|(with_reducible refine bD ?_ _)|(with_reducible refine Below.setCell ?_ ?_ _)|(simp;done)|(simp;omega)|omega)
theorem eqRowS_same (v v':Value) (l:List Rw) (w:World) (h:Rs w v l) (h':Rs w v' l) :
  Calls Tryd.prog 21 #[v,v'] w fun e w'=>e= .returned (.bool true)/\Below w.heap.size w w':=by
 obtain ⟨a,cap,rfl,hc,hm,hn,hcells⟩:=Rs.open h;obtain ⟨a',cap',rfl,hc',hm',hn',hcells'⟩:=Rs.open h';unfold maxLen at hm hm';have HC:=(show Hid _ from hcells);have HC':=(show Hid _ from hcells');clear hcells hcells' hn' h h';go_enter Tryd.func21,Tryd.ntmps21;go_wp2_with fail
 go_loopw [5] (fun i wr=>∃ k:Nat,k<=l.length/\i= .int .i64 k/\Below w.heap.size w wr) (fun i _=>l.length-(intOf i).toNat)
 case atStart=>exact ⟨0,by omega,rfl,Below.refl _ _⟩
 case round =>
  obtain ⟨k,hk,rfl,hb⟩:=hrel
  by_cases hlt:k<l.length
  ·obtain ⟨g,off,K,V,A,B,D,rfl,hg,hr,c0,c1,c2,c3,c4⟩:=HC.out k hlt;obtain ⟨g',off',K',V',A',B',D',rfl,hg',hr',p0,p1,p2,p3,p4⟩:=HC'.out k hlt;rw [hr] at hr';cases hr';clear hr;have d0:∀ p:Bel wr,p.ww.cell? ⟨g,off+k*5,none⟩=some (.int .i64 K):=fun p=>cB p.below (cB hb c0);have d1:∀ p:Bel wr,p.ww.cell? ⟨g,off+k*5+1,none⟩=some (.int .i64 V):=fun p=>cB p.below (cB hb c1);have d2:∀ p:Bel wr,p.ww.cell? ⟨g,off+k*5+2,none⟩=some (.int .i64 A):=fun p=>cB p.below (cB hb c2);have d3:∀ p:Bel wr,p.ww.cell? ⟨g,off+k*5+3,none⟩=some (.int .i64 B):=fun p=>cB p.below (cB hb c3);have d4:∀ p:Bel wr,p.ww.cell? ⟨g,off+k*5+4,none⟩=some (.int .i64 D):=fun p=>cB p.below (cB hb c4);have e0:∀ p:Bel wr,p.ww.cell? ⟨g',off'+k*5,none⟩=some (.int .i64 K):=fun p=>cB p.below (cB hb p0);have e1:∀ p:Bel wr,p.ww.cell? ⟨g',off'+k*5+1,none⟩=some (.int .i64 V):=fun p=>cB p.below (cB hb p1);have e2:∀ p:Bel wr,p.ww.cell? ⟨g',off'+k*5+2,none⟩=some (.int .i64 A):=fun p=>cB p.below (cB hb p2);have e3:∀ p:Bel wr,p.ww.cell? ⟨g',off'+k*5+3,none⟩=some (.int .i64 B):=fun p=>cB p.below (cB hb p3);have e4:∀ p:Bel wr,p.ww.cell? ⟨g',off'+k*5+4,none⟩=some (.int .i64 D):=fun p=>cB p.below (cB hb p4);clear c0 c1 c2 c3 c4 p0 p1 p2 p3 p4;have ik:((k:Int)<(l.length:Int)):=by omega
   have hne:=bel_some wr;go_wp2_with fail
   (refine wB (by kernel_rfl) (by kernel_rfl) ?_;(repeat (go_big_quiet_step ((first|(go_at_call 35;exact clz (eqRow_same _ _ _ _ _ _))))));refine wpQuiet_nil ?_)
   intro w1 hw1
   replace hw1:=bO hw1
   have hbw:=bSz hb hw1;go_wp2_with fail;go_roundw
   case rel=>exact ⟨k+1,by omega,by go_num,hbw⟩
   case measure=>simp [intOf];omega
  ·go_wp2_with fail;go_ret;exact ⟨rfl,hb⟩
def markR (a:Int) (i:Nat):Rw:=(((a+5*(i:Int),a+5*(i:Int)+1),(a+5*(i:Int)+1+1,a+5*(i:Int)+1+1+1)),a+5*(i:Int)+1+1+1+1)
def marksR (a:Int) (n:Nat):List Rw:=(List.range n).map (markR a)
theorem marksR_len (a:Int) (n:Nat):(marksR a n).length=n:=by simp [marksR]
theorem marksR_at (a:Int) {n i:Nat} (h:i<n):(marksR a n)[i]?=some (((a+5*(i:Int),a+5*(i:Int)+1),(a+5*(i:Int)+1+1,a+5*(i:Int)+1+1+1)),a+5*(i:Int)+1+1+1+1):=by simp [marksR,markR,h]
theorem markRN_any (a:Int) (w:World) :
  Calls Tryd.prog 26 #[.slice none 0 0, .int .i64 a] w fun e w'=>e= .returned (.int .i64 a)/\w'=w:=by
 go_enter Tryd.func26,Tryd.ntmps26;go_wp2_with fail;refine wp_loop_rounds 1 ?_;rw [rounds_succ];go_wp2_with fail;go_ret;exact ⟨rfl,rfl⟩
theorem heldR_any (v:Value) (n:Nat) (a:Int) (w:World) (h:Rs w v (marksR a n)) (h0:0<=a) (h1:a<=1000000000) :
  Calls Tryd.prog 30 #[v, .int .i64 a] w fun e w'=>e= .returned (.int .i64 (a+5*(n:Int)))/\Below w.heap.size w w':=by
 obtain ⟨ad,cap,rfl,hc,hm,hn,hcells⟩:=Rs.open h;rw [marksR_len] at hc hn hcells ⊢;unfold maxLen at hm;have HC:=(show Hid _ from hcells);clear hcells h;go_enter Tryd.func30,Tryd.ntmps30;go_wp2_with fail
 go_loopw [1,5] (fun q i wr=>∃ k:Nat,k<=n/\i= .int .i64 k/\q= .int .i64 (a+5*(k:Int))/\Below w.heap.size w wr) (fun _ i _=>n-(intOf i).toNat)
 case atStart=>exact ⟨0,by omega,rfl,by simp,Below.refl _ _⟩
 case round =>
  obtain ⟨k,hk,rfl,rfl,hb⟩:=hrel
  by_cases hlt:k<n
  ·obtain ⟨g,off,K,V,A,B,D,rfl,hg,hr,c0,c1,c2,c3,c4⟩:=HC.out k hlt;rw [marksR_at a hlt] at hr;cases hr;have d0:=cB hb c0;have d1:=cB hb c1;have d2:=cB hb c2;have d3:=cB hb c3;have d4:=cB hb c4;clear c0 c1 c2 c3 c4;go_wp2_with fail;go_roundw
   case rel=>exact ⟨k+1,by omega,by go_num,by go_num,hb⟩
   case measure=>simp [intOf];omega
  ·obtain rfl:k=n:=by omega
   go_wp2_with fail;go_ret;exact ⟨rfl,hb⟩
open Go.ChangeShapes Go.WideShapes Go.ChangeAt Go.Joins
section
end
end Go.Proofs.YtbdpcngcbnoioaaDoor
namespace Go.Proofs.YtbdpcngcbnoioaaDoor
open Go.RowKit
attribute [local go_sem ↓] Go.wp_at_zero Go.wp_at_succ
theorem newsL {w:World} {g:Nat} {c:Array Value} {t:TypeId} (h:Bk w g c t):∀ j u,c.toList[j]?=some u->w.cell? ((⟨g,0,none⟩:Addr).add j)=some u:=by
 intro j u hj;have e:(⟨g,0,none⟩:Addr).add j=⟨g,j,none⟩:=by simp [Addr.add];exact fun h=>h.symm
 rw [e];exact h.cell (by simpa using hj)
end Go.Proofs.YtbdpcngcbnoioaaDoor
