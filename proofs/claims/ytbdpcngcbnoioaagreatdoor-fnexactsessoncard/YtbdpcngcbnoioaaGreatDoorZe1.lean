import Derived.Test.YtbdpcngcbnoioaaGreatDoorZm0
set_option maxRecDepth 100000
set_option maxHeartbeats 4000000
namespace Go.Proofs.YtbdpcngcbnoioaaGreatDoor
open Go.ChangeShapes Go.WideShapes Go.ChangeAt Go.RowKit Go.Joins
def LsArg (w:World) (a:Option Addr) (len cap:Nat) (ns:Nat->Nat):Prop :=
 len<=cap/\cap<=maxLen/\∀ i:Nat,i<len->∃ g off ad cp,a=some ⟨g,off,none⟩/\g<w.heap.size/\w.cell? ⟨g,off+i,none⟩=some (.slice ad (ns i) cp)/\RsArg w ad (ns i) cp
theorem cellsLR:Tryz.prog.cellsOf 75=1:=by kernel_rfl
theorem LsArg.of_cells {H:Type} {enc:TypeId×Value->H} {w:World} {base:Nat} {sp:Nat->Bool} {held:Bool} {fuel:Nat} {v:Value} {x:DataW H×List MemPlace}
  (h:DataW.trod enc Tryz.prog w base sp held fuel 73 [v]=some x):∃ a len cap ns,v= .slice a len cap/\LsArg w a len cap ns:=by
 rcases Go.Deep.open_slice1 Tryz.underlying73 cellsLR h with ⟨hcs,_⟩|⟨a,len,cap,m,n,V,D,Pl,hcs,_,hl,hm,hmm,_,hx⟩
 ·simp at hcs;exact ⟨none,0,0,fun _=>0,hcs,Nat.le_refl _,by unfold maxLen;omega,fun i hi=>by omega⟩
 ·simp at hcs;have hlm:len<=m:=by rw [hmm];split<;>omega
  have each:∀ i,i<len->∃ q:Option Addr×Nat×Nat,w.cell? (a.add i)=some (.slice q.1 q.2.1 q.2.2)/\RsArg w q.1 q.2.1 q.2.2:=by
   intro i hi;obtain ⟨h1,h2⟩:=hx i (by omega)
   rcases Go.Deep.open_slice Tryz.underlying75 h2 with ⟨e,_⟩|⟨x',l',c',_,_,_,_,e,_⟩
   ·simp at e;rw [e] at h1 h2;exact ⟨(none,0,0),h1,RsArg.of_trod ⟨n,h2⟩⟩
   ·simp at e;rw [e] at h1 h2;exact ⟨(some x',l',c'),h1,RsArg.of_trod ⟨n,h2⟩⟩
  obtain ⟨q,hq⟩:=Go.Deep.choose_lt each;refine ⟨some a,len,cap,fun i=>(q i).2.1,hcs,hl,hm,fun i hi=>?_⟩;obtain ⟨b,off,spot⟩:=a;have hspot:spot=none:=by
   have h0:=World.cell?_spot (hq 0 (by omega)).1
   simpa [Addr.add] using h0
  subst hspot;have c0:=(hq i hi).1;rw [add_plain] at c0;exact ⟨b,off,(q i).1,(q i).2.2,rfl,lC c0,c0,(hq i hi).2⟩
def sumN (ns:Nat->Nat):Nat->Nat
 | 0=>0
 | k+1=>sumN ns k+ns k
theorem sumN_le (ns:Nat->Nat) {j k:Nat} (h:j<=k):sumN ns j<=sumN ns k:=by
 induction k with
 | zero=>rw [Nat.le_zero.1 h];exact Nat.le_refl _
 | succ k ih =>
  rcases Nat.lt_or_ge k j with h'|h'
  ·rw [Nat.le_antisymm h h'];exact Nat.le_refl _
  ·have:=ih h';show _<=sumN ns k+ns k;omega
theorem sumN_at (ns:Nat->Nat) {i k:Nat} (h:i<k):ns i<=sumN ns k:=by
 have:=sumN_le ns (show i+1<=k from h);have e:sumN ns (i+1)=sumN ns i+ns i:=rfl;omega
theorem LsArg.ly {w:World} {a:Option Addr} {len cap:Nat} {ns:Nat->Nat} (h:LsArg w a len cap ns) (hs:len+sumN ns len<=1048576):∃ L:List (List Rw),L.length=len/\Ly w (.slice a len cap) L/\L.flatten.length=sumN ns len:=by
 obtain ⟨h1,h2,h3⟩:=h;have each:∀ i,i<len->∃ q:(Option Addr×Nat)×List Rw,(∃ g off,a=some ⟨g,off,none⟩/\g<w.heap.size/\w.cell? ⟨g,off+i,none⟩=some (.slice q.1.1 (ns i) q.1.2))/\q.2.length=ns i/\Rs w (.slice q.1.1 (ns i) q.1.2) q.2:=by
  intro i hi;obtain ⟨g,off,ad,cp,ha,hg,hc,hr⟩:=h3 i hi;have:=sumN_at ns hi;obtain ⟨l,hl,hR⟩:=hr.rs (by omega);exact ⟨((ad,cp),l),⟨g,off,ha,hg,hc⟩,hl,hR⟩
 obtain ⟨q,hq⟩:=Go.Deep.choose_lt each;have hlen:∀ k,k<=len->((List.range k).map fun i=>(q i).2).flatten.length=sumN ns k:=by
  intro k
  induction k with
  | zero=>intro _;rfl
  | succ k ih =>
   intro hk;rw [List.range_succ,List.map_append,List.flatten_append,List.length_append,ih (by omega)];simp only [List.map_cons,List.map_nil,List.flatten_cons,List.flatten_nil,List.append_nil];rw [(hq k (by omega)).2.1];rfl
 refine ⟨(List.range len).map fun i=>(q i).2,by simp,⟨(List.range len).map fun i=> .slice (q i).1.1 (ns i) (q i).1.2,⟨a,cap,by simp,by simpa using h1,h2,by simp;omega,fun i u hi=>?_⟩,by simp,fun i u l hi hl=>?_⟩,hlen len (Nat.le_refl _)⟩
 ·have hi':i<len:=by simpa using (List.getElem?_eq_some_iff.1 hi).1
  simp [hi'] at hi;subst hi;obtain ⟨g,off,ha,hg,hc⟩:=(hq i hi').1;refine ⟨g,off,ha,hg,fun j hj=>?_⟩;obtain rfl:j=0:=by omega
  rw [Nat.mul_one,Nat.add_zero];exact hc
 ·have hi':i<len:=by simpa using (List.getElem?_eq_some_iff.1 hi).1
  simp [hi'] at hi hl;subst hi hl;exact (hq i hi').2.2
def szV (left:Int) (n:Nat):Int:=if left<(n:Int) then -1 else left-(n:Int)
theorem szRowSS_any (a:Option Addr) (n cap:Nat) (ns:Nat->Nat) (left:Int) (w:World) (h:LsArg w a n cap ns) (h0:0<=left) (h1:left<=1048576) :
  Calls Tryz.prog 109 #[.slice a n cap, .int .i64 left] w fun e w'=>e= .returned (.int .i64 (szV left (n+sumN ns n)))/\w'=w:=by
 obtain ⟨hn,hc,hcells⟩:=h;have HC:=(show Hid _ from hcells);unfold maxLen at hc;clear hcells
 by_cases hb:left<(n:Int)
 ·have HN:Hid (szV left (n+sumN ns n) = -1):=if_pos (by omega);go_enter Tryz.func109,Tryz.ntmps109;go_wp2_with fail;go_ret;exact ⟨by rw [HN.out];rfl,rfl⟩
 have hpos:¬ (left-(n:Int)<0):=by omega
 go_enter Tryz.func109,Tryz.ntmps109;go_wp2_with fail
 go_loopw [1,5] (fun r i wr=>∃ k:Nat,k<=n/\i= .int .i64 k/\r= .int .i64 (left-(n+sumN ns k:Nat))/\((n+sumN ns k:Nat):Int)<=left/\wr=w) (fun _ i _=>n-(intOf i).toNat)
 case atStart=>exact ⟨0,by omega,rfl,by simp [sumN],by simp [sumN];omega,rfl⟩
 case round =>
  obtain ⟨k,hk,rfl,rfl,hle,rfl⟩:=hrel
  by_cases hlt:k<n
  ·obtain ⟨g,off,ad,cp,rfl,hg,c0,hR⟩:=HC.out k hlt;have ik:(k:Int)<(n:Int):=by omega
   have hr1:=hR.1;have hr2:=hR.2.1;have HS:Hid (sumN ns (k+1)=sumN ns k+ns k):=rfl;have HM:=(show Hid _ from sumN_le ns (show k+1<=n from hlt));generalize hZ:left-((n+sumN ns k:Nat):Int)=Z at *;clear hR
   by_cases hov:Z<(ns k:Int)
   ·have HN:Hid (szV left (n+sumN ns n) = -1):=if_pos (by have:=HM.out;have:=HS.out;omega);go_wp2_with fail;refine (szRowS_any _ _ _ _ _ hr1 hr2 (by omega) (by omega)).mono ?_;rintro e w1 ⟨rfl,rfl⟩;rw [if_pos hov];go_wp2_with fail;go_ret;exact ⟨by rw [HN.out];rfl,rfl⟩
   ·have hq:¬ (Z-(ns k:Int)<0):=by omega
    go_wp2_with fail;refine (szRowS_any _ _ _ _ _ hr1 hr2 (by omega) (by omega)).mono ?_;rintro e w1 ⟨rfl,rfl⟩;rw [if_neg (by omega)];go_wp2_with fail;go_roundw
    case rel=>exact ⟨k+1,by omega,by go_num,by congr 1;have:=HS.out;omega,by have:=HS.out;omega,by trivial⟩
    case measure=>simp [intOf];omega
  ·obtain rfl:k=n:=by omega
   have HN:Hid (szV left (k+sumN ns k)=left-((k+sumN ns k:Nat):Int)):=if_neg (by omega);generalize hZ:left-((k+sumN ns k:Nat):Int)=Z at *;go_wp2_with fail;go_ret;exact ⟨by rw [HN.out];rfl,rfl⟩
def MdS (w:World) (B:Nat) (c:Array Value) (G:Nat->Nat) (L:List (List Rw)) (k:Nat):Prop :=
 (∀ i j,i<j->j<k->G i<G j)/\∀ i,i<k->∃ ci,c[i]?=some (.slice (some ⟨G i,0,none⟩) (gl L i).length (gl L i).length)/\B<=G i/\Bk w (G i) ci 55/\ci.size=(gl L i).length*5/\FillK rowC 5 ci (gl L i) (gl L i).length
theorem MdS.lt {w:World} {B:Nat} {c:Array Value} {G:Nat->Nat} {L:List (List Rw)} {k:Nat} (h:MdS w B c G L k) {i:Nat} (hi:i<k):B<=G i/\G i<w.heap.size:=by
 obtain ⟨ci,_,h2,h3,_⟩:=h.2 i hi;exact ⟨h2,h3.lt⟩
theorem MdS.step {w w1:World} {B:Nat} {c ci:Array Value} {G:Nat->Nat} {L:List (List Rw)} {k g:Nat} (h:MdS w B c G L k) (hb:Below w.heap.size w w1) (hB:B<=w.heap.size) (hk:k<c.size) (hg:w.heap.size<=g) (hbk:Bk w1 g ci 55) (hs:ci.size=(gl L k).length*5) (hf:FillK rowC 5 ci (gl L k) (gl L k).length) (d:Nat) (hd:d<B) :
  MdS (w1.setCell ⟨d,k,none⟩ (.slice (some ⟨g,0,none⟩) (gl L k).length (gl L k).length)) B (c.setIfInBounds k (.slice (some ⟨g,0,none⟩) (gl L k).length (gl L k).length)) (fun i=>if i=k then g else G i) L (k+1):=by
 refine ⟨fun i j hij hj=>?_,fun i hi=>?_⟩
 ·show (if i=k then g else G i)<(if j=k then g else G j)
  by_cases e:j=k
  ·have h1:=(h.lt (show i<k by omega)).2;simp only [e,if_true];rw [if_neg (by omega)];omega
  ·rw [if_neg (by omega),if_neg e];exact h.1 i j hij (by omega)
 ·by_cases e:i=k
  ·subst e;refine ⟨ci,by simp [hk],by simp;omega,?_,hs,hf⟩;simp only [if_true];exact hbk.apart (show g≠d by omega) _
  ·obtain ⟨ci',h1,h2,h3,h4,h5⟩:=h.2 i (by omega);refine ⟨ci',?_,?_,?_,h4,h5⟩
   ·show _=some (Value.slice (some ⟨if i=k then g else G i,0,none⟩) _ _)
    rw [if_neg e,Array.getElem?_setIfInBounds,if_neg (by omega)];exact h1
   ·show B<=(if i=k then g else G i)
    rw [if_neg e];exact h2
   ·show Bk _ (if i=k then g else G i) _ _
    rw [if_neg e];exact (h3.keep hb).apart (show G i≠d by omega) _
theorem MdS.ly {w:World} {B:Nat} {g:Nat} {c:Array Value} {G:Nat->Nat} {L:List (List Rw)} (h:MdS w B c G L L.length) (hb:Bk w g c 28) (hs:c.size=L.length) (hn:L.length<=2097152) (hl:∀ l∈L,l.length<=2097152):Ly w (.slice (some ⟨g,0,none⟩) L.length L.length) L:=by
 refine ⟨c.toList,⟨some ⟨g,0,none⟩,L.length,by simp [hs],by simp [hs],by unfold maxLen;omega,by simp [hs];omega,fun i u hi=>⟨g,0,rfl,hb.lt,fun j hj=>?_⟩⟩,by simp [hs],fun i u l hu hl'=>?_⟩
 ·obtain rfl:j=0:=by omega
  rw [Nat.mul_one,Nat.add_zero,Nat.zero_add];exact hb.cell (by simpa using hi)
 ·have hi:i<L.length:=(List.getElem?_eq_some_iff.1 hl').1;obtain ⟨ci,h1,h2,h3,h4,h5⟩:=h.2 i hi;have e:l=gl L i:=by rw [gl_at hi] at hl';exact (Option.some.inj hl').symm
  have e2:u= .slice (some ⟨G i,0,none⟩) (gl L i).length (gl L i).length:=by
   have:c[i]?=some u:=by simpa using hu
   rw [this] at h1;exact Option.some.inj h1
  subst e e2;have:=hl _ (gl_mem hi);exact SlK.of_blk h3 h5 rowC_len (Nat.le_refl _) (by unfold maxLen;omega) this
theorem make_slices (n:Nat) (hn:n<=2097152):∃ M:Array Value,M.size=n/\∀ u:World,(Instr.makeSlice 26 (.int .i64 (n:Int)) (.int .i64 (n:Int))).run Tryz.prog u= .ok (.slice (some ⟨u.heap.size,0,none⟩) n n) (u.alloc (.cells M 28)):=by
 obtain ⟨i0,hi,hz0,hz1,hz2⟩:=info_parts infoV;refine ⟨madeCells (Value.slice none 0 0).cells (n*i0.size),by rw [size_madeCells,hz1,Nat.mul_one],fun u=>?_⟩;have:=run_make (P:=Tryz.prog) u 26 28 i0 _ Tryz.underlying26 hi hz0 .i64 .i64 (n:Int) (n:Int) (by omega) (by omega) (by rw [hz2];omega) (by omega)
 simpa using this
theorem toRowSS_any (v:Value) (L:List (List Rw)) (w:World) (h:Ly w v L) :
  Calls Tryz.prog 112 #[v] w fun e w'=>∃ (c:Array Value) (G:Nat->Nat),e= .returned (.slice (some ⟨w.heap.size,0,none⟩) L.length L.length)/\Bk w' w.heap.size c 28/\c.size=L.length/\MdS w' (w.heap.size+1) c G L L.length/\Below w.heap.size w w':=by
 obtain ⟨a,cap,rfl,hc,hm,hn,hcells⟩:=Ly.open h;unfold maxLen at hm;obtain ⟨M,hM,hmk⟩:=make_slices L.length hn;have HC:=(show Hid _ from hcells);have HM:=(show Hid _ from hM);clear hcells hM h;go_enter Tryz.func112,Tryz.ntmps112;go_wp2_with fail
 go_loopw [4] (fun i wr=>∃ (k:Nat) (c:Array Value) (G:Nat->Nat),k<=L.length/\i= .int .i64 k/\Bk wr w.heap.size c 28/\c.size=L.length/\MdS wr (w.heap.size+1) c G L k/\w.heap.size+1<=wr.heap.size/\Below w.heap.size w wr) (fun i _=>L.length-(intOf i).toNat)
 case atStart=>exact ⟨0,M,fun _=>0,by omega,rfl,Bk.new _ _ rfl,HM.out,⟨fun i j _ hj=>by omega,fun i hi=>by omega⟩,by simp,bAz (Below.refl _ _) _⟩
 case round =>
  obtain ⟨k,c,G,hk,rfl,hbk,hcs,hmd,hsz,hb⟩:=hrel;have HD:=(show Hid (MdS wr (w.heap.size+1) c G L k) from hmd);have HS:=(show Hid (c.size=L.length) from hcs);clear hmd hcs
  by_cases hlt:k<L.length
  ·obtain ⟨g,off,ad,cp,rfl,hg,c0,hR⟩:=HC.out k hlt;have d0:=cB hb c0;have R1:=hR.keep hb;have ik:(k:Int)<(L.length:Int):=by omega
   clear c0 hR;go_wp2_with fail;refine (toRowS_any _ (gl L k) _ R1).mono ?_;rintro e w1 ⟨g1,c1,rfl,hg1,hbk1,hcs1,hfill1,hb1⟩;have bk1:=hbk.keep hb1;have hbw:=bSz hb hb1;have HN:=(show Hid _ from MdS.step HD.out hb1 hsz (by have:=HS.out;omega) hg1 hbk1 hcs1 hfill1 w.heap.size (by omega));have hs:=HS.out;obtain ⟨y0,q0⟩:∃ y,w1.cell? ⟨w.heap.size,k,none⟩=some y:=⟨_,bk1.cell (Array.getElem?_eq_getElem (show k<c.size by omega))⟩;have f0:=bk1.free k;have hsz1:w.heap.size+1<=w1.heap.size:=Nat.le_trans hsz hb1.size;clear hs hbk1 hcs1 hfill1 hb1;go_wp2_with fail;go_roundw
   case rel=>exact ⟨k+1,_,_,by omega,by go_num,bk1.set k _,by simpa using HS.out,HN.out,by simpa using hsz1,hbw.setCell (by simp) _⟩
   case measure=>simp [intOf];omega
  ·obtain rfl:k=L.length:=by omega
   go_wp2_with fail;go_ret;exact ⟨c,G,rfl,hbk,HS.out,HD.out,hb⟩
theorem eqRowSS_same (v v':Value) (L:List (List Rw)) (w:World) (h:Ly w v L) (h':Ly w v' L) :
  Calls Tryz.prog 115 #[v,v'] w fun e w'=>e= .returned (.bool true)/\Below w.heap.size w w':=by
 obtain ⟨a,cap,rfl,hc,hm,hn,hcells⟩:=Ly.open h;obtain ⟨a',cap',rfl,hc',hm',hn',hcells'⟩:=Ly.open h';unfold maxLen at hm hm';have HC:=(show Hid _ from hcells);have HC':=(show Hid _ from hcells');clear hcells hcells' hn' h h';go_enter Tryz.func115,Tryz.ntmps115;go_wp2_with fail
 go_loopw [5] (fun i wr=>∃ k:Nat,k<=L.length/\i= .int .i64 k/\Below w.heap.size w wr) (fun i _=>L.length-(intOf i).toNat)
 case atStart=>exact ⟨0,by omega,rfl,Below.refl _ _⟩
 case round =>
  obtain ⟨k,hk,rfl,hb⟩:=hrel
  by_cases hlt:k<L.length
  ·obtain ⟨g,off,ad,cp,rfl,hg,c0,hR⟩:=HC.out k hlt;obtain ⟨g',off',ad',cp',rfl,hg',c0',hR'⟩:=HC'.out k hlt;have d0:∀ p:Bel wr,p.ww.cell? ⟨g,off+k,none⟩=some (.slice ad (gl L k).length cp):=fun p=>cB p.below (cB hb c0);have d1:∀ p:Bel wr,p.ww.cell? ⟨g',off'+k,none⟩=some (.slice ad' (gl L k).length cp'):=fun p=>cB p.below (cB hb c0');have r0:∀ p:Bel wr,Rs p.ww (.slice ad (gl L k).length cp) (gl L k):=fun p=>(hR.keep hb).keep p.below;have r1:∀ p:Bel wr,Rs p.ww (.slice ad' (gl L k).length cp') (gl L k):=fun p=>(hR'.keep hb).keep p.below;clear c0 c0' hR hR';have ik:((k:Int)<(L.length:Int)):=by omega
   have hne:=bel_some wr;go_wp2_with fail
   (refine wBz (by kernel_rfl) (by kernel_rfl) ?_;(repeat (go_big_quiet_step ((first|(go_at_call 47;exact clz (eqRowS_same _ _ (gl L k) _ (r0 _) (r1 _)))))));refine wpQuiet_nil ?_)
   intro w1 hw1
   replace hw1:=bOz hw1
   have hbw:=bSz hb hw1;go_wp2_with fail;go_roundw
   case rel=>exact ⟨k+1,by omega,by go_num,hbw⟩
   case measure=>simp [intOf];omega
  ·go_wp2_with fail;go_ret;exact ⟨rfl,hb⟩
end Go.Proofs.YtbdpcngcbnoioaaGreatDoor
namespace Go.Proofs.YtbdpcngcbnoioaaGreatDoor
open Go.ChangeShapes Go.WideShapes Go.ChangeAt Go.RowKit Go.Joins
theorem RsArg.keep {w w1:World} {a:Option Addr} {len cap:Nat} (h:RsArg w a len cap) (hb:Below w.heap.size w w1):RsArg w1 a len cap:=by
 obtain ⟨h1,h2,q,h3⟩:=h;refine ⟨h1,h2,q,fun i hi=>?_⟩;obtain ⟨g,off,ha,hg,hc⟩:=h3 i hi;refine ⟨g,off,ha,Nat.lt_of_lt_of_le hg hb.size,fun j hj=>?_⟩;have e:∃ x,(rowC (q i))[j]?=some x:=⟨_,List.getElem?_eq_getElem (by rw [rowC_len];exact hj)⟩;obtain ⟨x,hx⟩:=e;rw [hx];exact cB hb (by rw [hc j hj,hx])
theorem LsArg.keep {w w1:World} {a:Option Addr} {len cap:Nat} {ns:Nat->Nat} (h:LsArg w a len cap ns) (hb:Below w.heap.size w w1):LsArg w1 a len cap ns:=by
 obtain ⟨h1,h2,h3⟩:=h;refine ⟨h1,h2,fun i hi=>?_⟩;obtain ⟨g,off,ad,cp,ha,hg,hc,hr⟩:=h3 i hi;exact ⟨g,off,ad,cp,ha,Nat.lt_of_lt_of_le hg hb.size,cB hb hc,hr.keep hb⟩
theorem TsArg.keep {w w1:World} {a:Option Addr} {len cap:Nat} (h:TsArg w a len cap) (hb:Below w.heap.size w w1):TsArg w1 a len cap:=by
 obtain ⟨h1,h2,A,B,h3⟩:=h;refine ⟨h1,h2,A,B,fun i hi=>?_⟩;obtain ⟨g,off,ha,hg,hc,hd⟩:=h3 i hi;exact ⟨g,off,ha,Nat.lt_of_lt_of_le hg hb.size,cB hb hc,cB hb hd⟩
theorem flat_mem_len {L:List (List Rw)} {l:List Rw} (h:l∈L):l.length<=L.flatten.length:=by
 induction L with
 | nil=>cases h
 | cons m L ih =>
  rw [List.flatten_cons,List.length_append]
  rcases List.mem_cons.1 h with rfl|h
  ·omega
  ·have:=ih h;omega
end Go.Proofs.YtbdpcngcbnoioaaGreatDoor
