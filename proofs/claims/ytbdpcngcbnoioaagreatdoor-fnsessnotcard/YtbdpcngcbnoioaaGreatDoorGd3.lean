import Derived.Test.YtbdpcngcbnoioaaGreatDoorGs2
import Derived.Test.YtbdpcngcbnoioaaGreatDoorGd1
import Derived.Test.YtbdpcngcbnoioaaGreatDoorGb0
namespace Go.Proofs.YtbdpcngcbnoioaaGreatDoor
open Go.RowKit
end Go.Proofs.YtbdpcngcbnoioaaGreatDoor
set_option maxHeartbeats 4000000
namespace Go.Proofs.YtbdpcngcbnoioaaGreatDoor
open Go.RowKit
theorem l71Batch_any {B:Nat} {w:World} {g:Nat} {v:Value} {n:Nat} {p:Int} (h:Rd B w g v n p) (hp:0<=p) (hp':p<=600000) (most:Int) (hm0:0<=most) (hm1:most<=10) :
  Calls Tryz.prog 127 #[.pointer (some ⟨g,0,none⟩), .int .i64 most] w fun e w'=>∃ (o:Value) (l:List Rw),e= .returned o/\(l.length:Int)<=most/\(∀ r∈l,smR r)/\OwnR w' w.heap.size o (batchL l)/\(∃ p':Int,p<=p'/\p'<=p+600/\Rd B w' g v n p')/\Bx g w w':=by
 go_enter Tryz.func127,Tryz.ntmps127;go_wp2_with fail;refine (l71Rows_any h hp (by omega) most hm0 hm1).mono ?_;rintro e w1 ⟨o,l,rfl,hl,hsm,hown,⟨p1,hp1,hp2,hr1⟩,hx1⟩;have hs1:=hx1.size;have HS:Hid (∀ r∈l,smR r):=hsm;have R1:Rs w1 o l:=OwnR.rs hown (by omega);clear hown hsm;go_wp2_with fail;refine (specBatchOf_any o l _ R1).mono ?_;rintro e w2 ⟨o2,rfl,own2,hb2⟩;have HO:Hid (OwnR w2 w1.heap.size o2 (batchL l)):=own2;clear own2;go_wp2_with fail;go_ret;exact ⟨_,l,rfl,hl,HS.out,oLz HO.out hs1,⟨p1,hp1,hp2,hr1.keepb hb2⟩,hx1.trans (Bx.of_below hb2)⟩
theorem rows_eq {α:Type} {l l':List α} (hn:l.length=l'.length) (h:∀ j:Nat,j<l.length->l[j]?=l'[j]?):l=l':=by
 apply List.ext_getElem?
 intro i
 by_cases hi:i<l.length
 ·exact h i hi
 ·rw [List.getElem?_eq_none (by omega),List.getElem?_eq_none (by omega)]
theorem lwItems_any (v v':Value) (l l':List It) (w:World) (h:Is w v l) (h':Is w v' l') :
  Calls Tryz.prog 17 #[v,v'] w fun e w'=>e= .returned (.bool (decide (l=l')))/\Below w.heap.size w w':=by
 obtain ⟨a,cap,rfl,hc,hm,hn,hcells⟩:=Is.open h;obtain ⟨a',cap',rfl,hc',hm',hn',hcells'⟩:=Is.open h';unfold maxLen at hm hm';have HC:=(show Hid _ from hcells);have HC':=(show Hid _ from hcells');clear hcells hcells' h h'
 by_cases hlen:l.length=l'.length
 ·have HE:Hid (l.length=l'.length):=hlen;rw [<- hlen] at hc' HC' ⊢;clear hlen hn';go_enter Tryz.func17,Tryz.ntmps17;go_wp2_with fail
  go_loopw [5] (fun i wr=>∃ k:Nat,k<=l.length/\i= .int .i64 k/\(∀ j:Nat,j<k->l[j]?=l'[j]?)/\Below w.heap.size w wr) (fun i _=>l.length-(intOf i).toNat)
  case atStart=>exact ⟨0,by omega,rfl,fun j hj=>by omega,Below.refl _ _⟩
  case round =>
   obtain ⟨k,hk,rfl,hall,hb⟩:=hrel;have HA:=(show Hid _ from hall);clear hall
   by_cases hlt:k<l.length
   ·obtain ⟨g,off,K,V,D,rfl,hg,hr,c0,c1,c2⟩:=HC.out k hlt;obtain ⟨g',off',K',V',D',rfl,hg',hr',p0,p1,p2⟩:=HC'.out k hlt;have d0:=cB hb c0;have d1:=cB hb c1;have d2:=cB hb c2;have e0:=cB hb p0;have e1:=cB hb p1;have e2:=cB hb p2;clear c0 c1 c2 p0 p1 p2;have HN:Hid ((((K,V)),D)≠(((K',V')),D')->decide (l=l')=false):=fun h=>decide_eq_false fun e=>h (by rw [e,hr'] at hr;exact (Option.some.inj hr).symm);have HY:Hid ((((K,V)),D)=(((K',V')),D')->∀ j:Nat,j<k+1->l[j]?=l'[j]?):=fun h j hj=>by
     by_cases e:j=k
     ·subst e;rw [hr,hr',h]
     ·exact HA.out j (by omega)
    clear hr hr';have ik:((k:Int)<(l.length:Int)):=by omega
    by_cases h0:K=K'
    ·subst h0
     by_cases h1:V=V'
     ·subst h1
      by_cases h2:D=D'
      ·subst h2;go_wp2_with fail
       go_quiet (fail)
       go_wp2_with fail;go_roundw
       case rel=>exact ⟨k+1,by omega,by go_num,HY.out (by simp),bDz hb _⟩
       case measure=>simp [intOf];omega
      ·have nx:(D==D')=false:=beq_eq_false_iff_ne.2 h2;go_wp2_with fail
       go_quiet (fail)
       go_wp2_with fail;go_ret;exact ⟨rB (HN.out (fun h=>h2 (by simp at h;simp [h]))).symm,bDz hb _⟩
     ·have nx:(V==V')=false:=beq_eq_false_iff_ne.2 h1;go_wp2_with fail
      go_quiet (fail)
      go_wp2_with fail;go_ret;exact ⟨rB (HN.out (fun h=>h1 (by simp at h;simp [h]))).symm,bDz hb _⟩
    ·have nx:(K==K')=false:=beq_eq_false_iff_ne.2 h0;go_wp2_with fail
     go_quiet (fail)
     go_wp2_with fail;go_ret;exact ⟨rB (HN.out (fun h=>h0 (by simp at h;simp [h]))).symm,bDz hb _⟩
   ·go_wp2_with fail;go_ret;exact ⟨rB (decide_eq_true (rows_eq HE.out fun j hj=>HA.out j (by omega))).symm,hb⟩
 ·have hd:decide (l=l')=false:=decide_eq_false fun e=>hlen (by rw [e]);rw [hd];have hne:((l.length:Int)==(l'.length:Int))=false:=beq_eq_false_iff_ne.2 (by omega);generalize l.length=n at *;generalize l'.length=n' at *;go_enter Tryz.func17,Tryz.ntmps17;go_wp2_with fail;go_ret;exact ⟨rfl,Below.refl _ _⟩
theorem lwItems_eq {l l':List It} {r:Bool} (h:decide (l=l')=r) {v v':Value} {w:World} (ht:Is w v l) (ht':Is w v' l') :
  Calls Tryz.prog 17 #[v,v'] w fun e w'=>e= .returned (.bool r)/\Below w.heap.size w w':=by
 rw [<- h];exact lwItems_any v v' l l' w ht ht'
theorem implAt_k {l:List Rw} {x y:Int} {L:List It} (e:itemsL l x y=L) {v:Value} {w:World} (h:Rs w v l) :
  Calls Tryz.prog 41 #[v,tv x y] w fun e w'=>∃ o:Value,e= .returned o/\Is w' o L/\Below w.heap.size w w':=by
 subst e;refine (implAt_any v l x y w h).mono ?_;rintro e w' ⟨o,rfl,own,hb⟩;exact ⟨o,rfl,OwnI.is own (by have:=items_len l x y;omega),hb⟩
theorem selfI (l:List It):decide (l=l)=true:=by simp
theorem ofOwnI {f:FuncId} {args:Array Value} {w:World} {L M:List It} (e:M=L) (hl:M.length<=2097152) (h:Calls Tryz.prog f args w fun e w'=>∃ o:Value,e= .returned o/\OwnI w' w.heap.size o M/\Below w.heap.size w w') :
  Calls Tryz.prog f args w fun e w'=>∃ o:Value,e= .returned o/\Is w' o L/\Below w.heap.size w w':=by
 subst e;refine h.mono ?_;rintro e w' ⟨o,rfl,own,hb⟩;exact ⟨o,rfl,OwnI.is own hl,hb⟩
theorem specAt_k {l:List Rw} {x y:Int} {L:List It} (e:itemsL l x y=L) {v:Value} {w:World} (h:Rs w v l):Calls Tryz.prog 66 #[v,tv x y] w fun e w'=>∃ o:Value,e= .returned o/\Is w' o L/\Below w.heap.size w w' :=
 ofOwnI e (by have:=items_len l x y;omega) (specAt_any v l x y w h)
theorem put_absR (r:Rw) (l:List Rw):absum (putL ltS r l)<=r.2.natAbs+absum l:=by
 induction l with
 | nil=>simp [putL,absum]
 | cons x l ih =>
  unfold putL
  by_cases h1:ltS r.1 x.1=true
  ·rw [if_pos h1];simp only [absum];omega
  ·rw [if_neg h1]
   by_cases h2:ltS x.1 r.1=true
   ·rw [if_pos h2];simp only [absum];omega
   ·rw [if_neg h2];simp only [absum];omega
theorem sumA_absR (l:List Rw):absum (sumA ltS l)<=absum l:=by
 induction l using snoc_ind with
 | h0=>simp [sumA]
 | h1 l r ih =>
  rw [sumA_snoc,absum_append];have:=put_absR r (sumA ltS l);simp only [absum];omega
theorem abs_filterR (l:List Rw) (p:Rw->Bool):absum (l.filter p)<=absum l:=by
 induction l with
 | nil=>simp
 | cons r l ih =>
  rw [List.filter_cons]
  split
  ·simp only [absum];omega
  ·simp only [absum];omega
theorem sum_absR (l:List Rw):absum (sumL ltS l)<=absum l:=Int.le_trans (abs_filterR _ _) (sumA_absR l)
theorem sumF_absR (l:List Rw):absum (sumF l)<=absum l:=by
 unfold sumF fitL;split
 ·exact sum_absR l
 ·exact absum_pos l
end Go.Proofs.YtbdpcngcbnoioaaGreatDoor
