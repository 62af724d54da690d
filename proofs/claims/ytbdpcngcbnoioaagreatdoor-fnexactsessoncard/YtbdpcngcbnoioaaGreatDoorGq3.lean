import Derived.Test.YtbdpcngcbnoioaaGreatDoorGq1
import Derived.Sort.QuietIn
set_option maxRecDepth 100000
set_option maxHeartbeats 16000000
namespace Go.Proofs.YtbdpcngcbnoioaaGreatDoor
open Go.RowKit Go.Shelf
attribute [local go_sem] Oper.semAt_some
theorem newsT {W:World} {g:Nat} {X Y:Int} (h:Bk W g #[.int .i64 X, .int .i64 Y] 32):∀ j u,[Value.int .i64 X,Value.int .i64 Y][j]?=some u->W.cell? ((⟨g,0,none⟩:Addr).add j)=some u:=by
 intro j u hj
 match j,hj with
 | 0,hj=>simp at hj;subst hj;simpa [Addr.add] using h.two.1
 | 1,hj=>simp at hj;subst hj;simpa [Addr.add] using h.two.2.1
theorem appT_run {W:World} {base:Nat} {v:Value} {l:LI} (st ty:TypeId) (hst:Tryz.prog.underlying st=some (.slice 32)) (hown:Own W base v l) (g0:Nat) (X Y:Int) (hc:Bk W g0 #[.int .i64 X, .int .i64 Y] 32) (hl:l.length<=2000000) (hbase:base<=W.heap.size) :
  ∃ g cap w',(Builtin.append_ #[st,st] ty #[v, .slice (some ⟨g0,0,none⟩) 1 1]).run Tryz.prog W= .ok (.slice (some ⟨g,0,none⟩) (l.length+1) cap) w'/\Own w' base (.slice (some ⟨g,0,none⟩) (l.length+1) cap) (l++[(X,Y)]) /\
   W.grownBy w' v.ownBlock/\(v.ownBlock=some g\/g=W.heap.size)/\g<w'.heap.size:=by
 obtain ⟨i0,hi,hz0,hz1,hz2⟩:=info_parts infoT;obtain ⟨g,cap,w',h1,h2,h3,h4,h5⟩:=run_append_lies (P:=Tryz.prog) (w:=W) st ty base 32 i0 _ 2 16 hst hi hz0 hz1 hz2 rfl (by decide) v l.length (cellsL l) hown ⟨g0,0,none⟩ 1 1 [.int .i64 X, .int .i64 Y] rfl (newsT hc) (ones2 _ _) (by omega) (by unfold maxLen;omega) (by omega) hbase W.heap.size rfl;refine ⟨g,cap,w',h1,?_,h3,h4,h5⟩
 show w'.ownsRow _ _ _ _ _ _
 rw [cellsL_snoc];simpa using h2
theorem hPop_at {hb:Nat} {l:LI} {w:World} {X Y:Int} (h:Hp w hb l) (hL:HeapLow l l.length 0) (h0:0<l.length) (hl:l.length<=1000000) (hg:gt l 0=(X,Y)) :
  Calls Tryz.prog 263 #[hIf hb] w fun e w'=>e= .returned (.iface 32 (tv X Y))/\∃ c:LI,Hp w' hb c/\c.length+1=l.length/\(∀ x,x∈l↔x=(X,Y)\/x∈c)/\HeapLow c c.length 0/\HF hb w w':=by
 have:=hPop_any h hL h0 hl;rw [hg] at this;exact this
def slLen:Value->Nat
 | .slice _ n _=>n
 | _=>0
theorem own_slice {w:World} {B:Nat} {v:Value} {l:LI} (h:Own w B v l):∃ ad cap,v= .slice ad l.length cap:=by
 rcases own_open h with ⟨rfl,rfl⟩|⟨g,cap,c,rfl,_⟩
 ·exact ⟨_,_,rfl⟩
 ·exact ⟨_,_,rfl⟩
structure JtS (l:List Rw) (m hb:Nat) (J:LI->World->Prop) (p:Value) (n:Nat) (next:LI) (wr:World):Prop where
 own:Own wr hb p ((jT l).take n)
 hp:Hp wr hb next
 low:HeapLow next next.length 0
 pt:PtI l n next
 le:next.length<=400+64*n
 dj:Dj hb m hb p.ownBlock wr
 jj:J ((jT l).take n) wr
theorem hf_cell {B hb:Nat} {w W wr:World} (hw:Below B w W) (hB:w.heap.size<=B) (hf:HF hb W wr) (hh:w.heap.size<=hb) (ha:arrOf W hb=none) {g i:Nat} {v:Value} (hc:w.cell? ⟨g,i,none⟩=some v):wr.cell? ⟨g,i,none⟩=some v:=by
 have hlt:=lC hc;rw [World.cell?_of_block (w:=w) ((hf.keep g (by have:=hw.size;omega) (by omega) (by rw [ha];simp)).trans (hw.block g (by omega)))];exact hc
theorem own_cellsAt {w:World} {B:Nat} {v:Value} {l:LI} (h:Own w B v l) {i:Nat} (hi:i<l.length):∃ g cap,v= .slice (some ⟨g,0,none⟩) l.length cap/\w.cell? ⟨g,i*2,none⟩=some (.int .i64 (gt l i).1)/\w.cell? ⟨g,i*2+1,none⟩=some (.int .i64 (gt l i).2):=by
 rcases own_open h with ⟨rfl,rfl⟩|⟨g,cap,c,rfl,_,hb,_,_,_,hf⟩
 ·simp at hi
 ·exact ⟨g,cap,rfl,hb.cell (hf i hi).1,hb.cell (hf i hi).2⟩
theorem JtS.meas {l:List Rw} {m hb:Nat} {J:LI->World->Prop} {p:Value} {n:Nat} {next:LI} {wr:World} (h:JtS l m hb J p n next wr):(64-slLen p)*64+slLen ((wr.cell? ⟨hb,0,none⟩).getD (.int .i64 0))=(64-n)*64+next.length:=by
 obtain ⟨ad,cp,e⟩:=own_slice h.own;have hle:=h.pt.le;have htk:((jT l).take n).length=n:=by rw [List.length_take];omega
 obtain ⟨v,hv1,hv2,_⟩:=h.hp;obtain ⟨ad',cp',e'⟩:=own_slice hv2;rw [e,hv1.cell (i:=0) (v:=v) rfl,e',htk];rfl
theorem jts_told {l:List Rw} {m hb n:Nat} {J:LI->World->Prop} {v u:Value} {next c c':LI} {X Y:Int} {w w1:World} (hP:PtI l n next) (hmm:(X,Y)∈next) (hmin:∀ x∈next,leT (X,Y) x) (hn:n<(jT l).length) (he:gt (jT l) n=(X,Y)) (hle:next.length<=400+64*n) (hc:c.length+1=next.length/\(∀ x,x∈next↔x=(X,Y)\/x∈c))
  (hc':c'.length=c.length+n) (hm':∀ x,x∈c'↔x∈c\/∃ j,j<n/\x=jnT (gt (jT l) j) (X,Y)) (hlow:HeapLow c' c'.length 0) (hp:Hp w hb c') (hD:Dj hb m hb v.ownBlock w)
  (hJ:∀ s A A',J s A->ItS hb m A A'->J s A') (hj:J ((jT l).take (n+1)) w) (hg:w.grownBy w1 v.ownBlock) (hu:u.ownBlock=v.ownBlock\/(u.ownBlock=some w.heap.size/\w.heap.size<w1.heap.size)) (ho:Own w1 hb u ((jT l).take n++[(X,Y)])):JtS l m hb J u (n+1) c' w1:=by
 obtain ⟨k1,k2,k3,k4⟩:=hD.app hg hu;have hT:(jT l).take (n+1)=(jT l).take n++[(X,Y)]:=by
  rw [List.take_add_one]
  congr 1
  rw [<- he];unfold gt;simp [List.getD_eq_getElem?_getD,List.getElem?_eq_getElem hn]
 have hjl:=jtimes_len l;exact ⟨by rw [hT];exact ho,hp.app k3 k4,hlow,hP.told hmm hmin hn he hc.2 hm',by omega,k2,hJ _ _ _ hj k1⟩
structure JiS (l:List Rw) (m hb bt:Nat) (J:LI->World->Prop) (pv:Value) (n:Nat) (c:LI) (X Y:Int) (k:Nat) (c':LI) (wr:World):Prop where
 own:Own wr hb pv ((jT l).take n)
 hp:Hp wr hb c'
 low:HeapLow c' c'.length 0
 len:c'.length=c.length+k
 mem:∀ x,x∈c'↔x∈c\/∃ j,j<k/\x=jnT (gt (jT l) j) (X,Y)
 dj:Dj hb m hb pv.ownBlock wr
 jj:J ((jT l).take (n+1)) wr
 bx:Bk wr bt #[.int .i64 X, .int .i64 Y] 32
 ba:arrOf wr hb≠some bt
 bh:bt≠hb
theorem JiS.step {l:List Rw} {m hb bt:Nat} {J:LI->World->Prop} {pv:Value} {n:Nat} {c:LI} {X Y:Int} {k:Nat} {c' c'':LI} {wr w1 w2:World} (h:JiS l m hb bt J pv n c X Y k c' wr) (hJ:∀ s A A',J s A->ItS hb m A A'->J s A')
  (hb1:Below wr.heap.size wr w1) (hF:HF hb w1 w2) (hp2:Hp w2 hb c'') (hl:c''.length=c'.length+1) (hm:∀ x,x∈c''↔x∈c'\/x=jnT (gt (jT l) k) (X,Y)) (hlow:HeapLow c'' c''.length 0):JiS l m hb bt J pv n c X Y (k+1) c'' w2:=by
 have D1:=h.dj.below hb1;have ha:arrOf w1 hb≠some bt:=by rw [aB (hb1.block hb h.dj.hw)];exact h.ba
 have hbt:=(h.bx.keep hb1).lt;refine ⟨D1.ownHF hF (oK h.own hb1),hp2,hlow,by rw [hl,h.len];omega,fun x=>?_,D1.hf hF,hJ _ _ _ (hJ _ _ _ h.jj (h.dj.itBelow hb1)) (D1.itHF hF),hF.bk (h.bx.keep hb1) h.bh ha,?_,h.bh⟩
 ·rw [hm,h.mem];constructor
  ·rintro ((e|⟨j,hj,e⟩)|e)
   ·exact .inl e
   ·exact .inr ⟨j,by omega,e⟩
   ·exact .inr ⟨k,by omega,e⟩
  ·rintro (e|⟨j,hj,e⟩)
   ·exact .inl (.inl e)
   ·by_cases hq:j=k
    ·subst hq;exact .inr e
    ·exact .inl (.inr ⟨j,by omega,e⟩)
 ·rcases hF.arr with e|⟨q,e,h1,h2⟩
  ·rw [e];exact ha
  ·rw [e];intro e';cases e';omega
theorem own_name {w:World} {B m hb:Nat} {v:Value} {l:LI} (h:Own w B v l) (hD:Dj hb m hb v.ownBlock w):∃ pv,v=pv/\Own w B pv l/\Dj hb m hb pv.ownBlock w:=⟨v,rfl,h,hD⟩
theorem eq_pair {P:Int×Int} {X Y:Int} (h:P≠(X,Y)):(P.1==X)=false\/(P.1=X/\(P.2==Y)=false):=by
 by_cases h1:P.1=X
 ·refine .inr ⟨h1,beq_eq_false_iff_ne.2 fun e=>h (Prod.ext h1 e)⟩
 ·exact .inl (beq_eq_false_iff_ne.2 h1)
def PfJ (l:List Rw) (pre:LI) (t:Int×Int):Prop:=∃ n,n<(jT l).length/\pre=(jT l).take n/\gt (jT l) n=t
theorem joined1_in (lp b1 m:Nat) (a:Option Addr) (cap:Nat) (l:List Rw) (J:LI->World->Prop) (W:World)
  (hJ:∀ s A A',J s A->ItS W.heap.size m A A'->J s A')
  (hY:∀ pre t W1,J pre W1->pre.length<64->PfJ l pre t->YieldAt Fence.wide (3-1) Tryz.prog lp #[tv t.1 t.2] W1 fun e W'=>e= .returned (.bool true)/\J (pre++[t]) W'/\KpA m W1 W')
  (hk:rokB l=true) (hRs:Rs W (.slice a l.length cap) l) (hb1:Bk W b1 #[.slice a l.length cap] 28) (hm:m<W.heap.size) (ha:∀ q,arrOf W m=some q->q<W.heap.size) (h0:J [] W) :
  CallsIn Fence.wide 3 Tryz.prog 261 #[.func (.yield lp) #[] #[], .pointer (some ⟨b1,0,none⟩)] W fun e W'=>(∃ v,e= .returned v)/\∃ xs,xs=jT l/\J xs W':=by
 have hll:=rLz hk;have HK:=(show Hid (rokB l=true) from hk);obtain ⟨a',c',e,hc,hm0,hn,hcells⟩:=Rs.open hRs;cases e;unfold maxLen at hm0;have HC:=(show Hid _ from hcells);have hbA:Below W.heap.size W (W.alloc (.cells #[.slice none 0 0] 303)):=bAz (Below.refl _ _) _;have bh0:Bk (W.alloc (.cells #[.slice none 0 0] 303)) W.heap.size #[.slice none 0 0] 303:=Bk.new _ _ rfl;have d0:=(hb1.keep hbA).cell (i:=0) (v:= .slice a l.length cap) rfl;have HP0:Hid (Hp (W.alloc (.cells #[.slice none 0 0] 303)) W.heap.size ((l.take 0).map fun r=>r.1.2)):=⟨_,bh0,⟨rfl, .inl ⟨rfl,rfl⟩⟩,by simp [Value.ownBlock]⟩;have hA0:arrOf (W.alloc (.cells #[.slice none 0 0] 303)) W.heap.size=none:=by rw [arrOf_bk bh0];rfl
 have hszA:(W.alloc (.cells #[.slice none 0 0] 303)).heap.size=W.heap.size+1:=by simp
 have DJ0:Hid (Dj W.heap.size m W.heap.size none (W.alloc (.cells #[.slice none 0 0] 303))):=by
  have e:arrOf (W.alloc (.cells #[.slice none 0 0] 303)) m=arrOf W m:=aB (hbA.block m hm);refine ⟨hm,Nat.le_refl _,by omega,by omega,(fun q e=>by rw [hA0] at e;cases e),(fun q e=>by cases e),fun q e'=>?_⟩;rw [e] at e';have:=ha q e';exact ⟨by omega,by omega⟩
 have HJ0:Hid (J [] (W.alloc (.cells #[.slice none 0 0] 303))):=hJ _ _ _ h0 (ItS.below hbA (Nat.le_refl _) ha);have HSZ:=(show Hid _ from hszA);clear hcells hRs hk h0 bh0 hb1 ha hszA;refine callsIn_of_wp Tryz.func261 rfl trivial ?_ rfl;simp only [Tryz.ntmps261,List.size_toArray,List.length_cons,List.length_nil,Nat.reduceAdd,Nat.reduceSub,Array.replicate_succ,Array.replicate_zero,List.push_toArray,List.append_toArray,List.nil_append,List.cons_append]
 gi_wp2
 generalize hW1:World.alloc W _=W1 at *;generalize hHB:W.heap.size=hb at *
 gi_loopw [12] (fun i wr=>∃ k:Nat,k<=l.length/\i= .int .i64 k/\Hp wr hb ((l.take k).map fun r=>r.1.2)/\HF hb W1 wr) (fun i _=>l.length-(intOf i).toNat)
 case atStart=>exact ⟨0,by omega,rfl,HP0.out,HF.refl _ _⟩
 case round =>
  obtain ⟨k,hkl,rfl,hH,hF⟩:=hrel
  by_cases hlt:k<l.length
  ·obtain ⟨g,off,K,V,A,B,D,rfl,hg,hr,c0,c1,c2,c3,c4⟩:=HC.out k hlt;have q0:=hf_cell hbA (by omega) hF (by omega) hA0 c0;have q1:=hf_cell hbA (by omega) hF (by omega) hA0 c1;have q2:=hf_cell hbA (by omega) hF (by omega) hA0 c2;have q3:=hf_cell hbA (by omega) hF (by omega) hA0 c3;have q4:=hf_cell hbA (by omega) hF (by omega) hA0 c4;have ii:((k:Int)<(l.length:Int)):=by omega
   have HR:=(show Hid _ from hr);obtain ⟨v,hv1,hv2,hv3⟩:=hH;have s0:=hv1.cell (i:=0) (v:=v) rfl;have hlb:=hv1.lt;have HV:=(show Hid (Bk wr hb #[v] 303/\Own wr 0 v ((l.take k).map fun r=>r.1.2)/\v.ownBlock≠some hb) from ⟨hv1,hv2,hv3⟩);have hlk:((l.take k).map fun r=>r.1.2).length=k:=by rw [List.length_map,List.length_take];omega
   have HZ:Hid ((l.take (k+1)).map (fun r=>r.1.2)=((l.take k).map fun r=>r.1.2)++[(A,B)]):=by
    show _=_;rw [tSz HR.out,List.map_append];rfl
   have hb2:Below wr.heap.size wr ((wr.alloc (.cells #[.int .i64 K, .int .i64 V, .int .i64 A, .int .i64 B, .int .i64 D] 55)).alloc (.cells #[.int .i64 A, .int .i64 B] 32)):=bAz (bAz (Below.refl _ _) _) _;have bt:Bk ((wr.alloc (.cells #[.int .i64 K, .int .i64 V, .int .i64 A, .int .i64 B, .int .i64 D] 55)).alloc (.cells #[.int .i64 A, .int .i64 B] 32)) (wr.heap.size+1) #[.int .i64 A, .int .i64 B] 32:=Bk.new _ _ (by simp);obtain ⟨g4,cap4,w4,hrun,o1,o2,o3,o4⟩:=appT_run 303 303 Tryz.underlying303 (oK hv2 hb2) (wr.heap.size+1) A B bt (by omega) (Nat.zero_le _);obtain ⟨fz,cz,FIN⟩:=push_fin hv1 hv3 hb2 o1 o2 o3 o4;rw [<- HZ.out] at FIN;clear c0 c1 c2 c3 c4 hr hv1 hv2 hv3 o1 o2 o3 o4 hb2 bt;rw [hlk] at hrun FIN;clear hlk
   gi_wp2_with (gi_at_builtin;refine wpListIn_app0 rfl _ _ _ rfl rfl rfl hrun ?_)
   go_roundw
   case rel=>exact ⟨k+1,by omega,by go_num,FIN.out.1,hF.trans FIN.out.2⟩
   case measure=>simp [intOf];omega
  ·obtain rfl:k=l.length:=by omega
   rw [List.take_length] at hH;have HD2:Hid (Dj hb m hb none wr):=DJ0.out.hf hF;have HJ2:Hid (J [] wr):=hJ _ _ _ HJ0.out (DJ0.out.itHF hF);clear d0
   gi_wp2
   refine ⟨trivial,?_⟩;refine CallsIn.mono (callsIn_wide.2 (hInit_any hH (by rw [List.length_map];omega))) ?_;rintro e w2 ⟨rfl,c,hHc,hlc,hmc,hlowc,hF2⟩;have ST:Hid (JtS l m hb J (.slice none 0 0) 0 c w2):=⟨⟨rfl, .inl ⟨rfl,rfl⟩⟩,hHc,hlowc,PtI.start HK.out hmc,by rw [hlc,List.length_map];omega,HD2.out.hf hF2,hJ _ _ _ HJ2.out (HD2.out.itHF hF2)⟩;clear hHc hlc hmc hlowc hF2 hH hF HD2 HJ2 HP0 DJ0 HJ0 HSZ hbA hA0 HC
   gi_wp2
   gi_loopw [6] (fun p wr=>∃ n next,JtS l m hb J p n next wr) (fun p wr=>(64-slLen p)*64+slLen ((wr.cell? ⟨hb,0,none⟩).getD (.int .i64 0)))
   case atStart=>exact ⟨0,c,ST.out⟩
   case round =>
    clear ST;obtain ⟨n,next,hS⟩:=hrel;have HS:=(show Hid (JtS l m hb J u6 n next wr) from hS);obtain ⟨hown,hH,hlow,hP,hle,hD,hJn⟩:=hS;have hnl:=hP.le;have hjl:=jtimes_len l;have htk:((jT l).take n).length=n:=by rw [List.length_take];omega
    obtain ⟨adp,capp,hp6⟩:=own_slice hown;rw [htk] at hp6;obtain ⟨v,hv1,hv2,hv3⟩:=hH;obtain ⟨adh,caph,hvh⟩:=own_slice hv2;have s0:wr.cell? ⟨hb,0,none⟩=some (.slice adh next.length caph):=by rw [<- hvh];exact hv1.cell (i:=0) (v:=v) rfl
    have HM:Hid ((64-slLen u6)*64+slLen ((wr.cell? ⟨hb,0,none⟩).getD (.int .i64 0))=(64-n)*64+next.length):=by
     show _=_;rw [s0,hp6];rfl
    clear hv1 hv2 hv3 hvh hown hlow hD hJn
    by_cases hz:next.length=0
    ·have hnil:next=[]:=List.eq_nil_of_length_eq_zero hz;have HE:Hid (n=(jT l).length):=by
      have:=HS.out.pt;rw [hnil] at this;exact this.stop
     rw [hz] at s0;clear hP
     gi_wp2
     go_end0
     refine ⟨⟨_,rfl⟩,_,rfl,?_⟩;have:=HS.out.jj;rw [HE.out,List.take_length] at this;exact this
    ·have gpos:(0:Int)<(next.length:Int):=by omega
     have hpos:0<next.length:=by omega
     obtain ⟨X,Y,hXY⟩:∃ X Y,gt next 0=(X,Y):=⟨_,_,rfl⟩;have HG:=(show Hid (gt next 0=(X,Y)) from hXY);have HP:=(show Hid (PtI l n next) from hP);clear hP hXY
     gi_wp2
     refine ⟨trivial,?_⟩;refine CallsIn.mono (callsIn_wide.2 (hPop_at HS.out.hp HS.out.low hpos (by omega) HG.out)) ?_;rintro e w1 ⟨rfl,c,hHc,hlc,hmc,hlowc,hF1⟩;have ta:=ta_time X Y w1;have hba:Below w1.heap.size w1 (w1.alloc (.cells #[.int .i64 X, .int .i64 Y] 32)):=bAz (Below.refl _ _) _;have bx:Bk (w1.alloc (.cells #[.int .i64 X, .int .i64 Y] 32)) w1.heap.size #[.int .i64 X, .int .i64 Y] 32:=Bk.new _ _ rfl;have D1:=HS.out.dj.hf hF1;have HD:Hid (Dj hb m hb u6.ownBlock (w1.alloc (.cells #[.int .i64 X, .int .i64 Y] 32))):=D1.below hba;have HO:Hid (Own (w1.alloc (.cells #[.int .i64 X, .int .i64 Y] 32)) hb u6 ((jT l).take n)):=oK (HS.out.dj.ownHF hF1 HS.out.own) hba;have HJ1:Hid (J ((jT l).take n) (w1.alloc (.cells #[.int .i64 X, .int .i64 Y] 32))):=hJ _ _ _ (hJ _ _ _ HS.out.jj (HS.out.dj.itHF hF1)) (D1.itBelow hba);have HH:Hid (Hp (w1.alloc (.cells #[.int .i64 X, .int .i64 Y] 32)) hb c):=hHc.keep hba;have HC:Hid (c.length+1=next.length/\(∀ x,x∈next↔x=(X,Y)\/x∈c)/\HeapLow c c.length 0):=⟨hlc,hmc,hlowc⟩;have HX:Hid (w1.heap.size<(w1.alloc (.cells #[.int .i64 X, .int .i64 Y] 32)).heap.size/\u6.ownBlock≠some w1.heap.size/\arrOf (w1.alloc (.cells #[.int .i64 X, .int .i64 Y] 32)) m≠some w1.heap.size/\arrOf (w1.alloc (.cells #[.int .i64 X, .int .i64 Y] 32)) hb≠some w1.heap.size/\w1.heap.size≠hb):=by
      have k1:=D1.mB;have k2:=D1.wB;have k3:=D1.hw;refine ⟨by simp,fun e=>?_,fun e=>?_,fun e=>?_,by omega⟩
      ·have:=(D1.pp _ e).2.1;omega
      ·rw [aB (hba.block m (by omega))] at e;have:=(D1.am _ e).1;omega
      ·rw [aB (hba.block hb (by omega))] at e;have:=(D1.ah _ e).2.1;omega
     clear hHc hlc hmc hlowc hF1 D1 hba s0;subst hp6;obtain ⟨x0,x1,_,_⟩:=bx.two;have HN:Hid ((n=0/\(X,Y) ∉ (jT l).take n)\/0<n/\((gt (jT l) (n-1)=(X,Y)/\(X,Y)∈(jT l).take n)\/(gt (jT l) (n-1)≠(X,Y)/\(X,Y) ∉ (jT l).take n))):=by
      have hmm:(X,Y)∈next:=(HC.out.2.1 _).2 (.inl rfl)
      by_cases hn0:n=0
      ·exact .inl ⟨hn0,by rw [hn0];simp⟩
      ·refine .inr ⟨by omega,?_⟩
       by_cases ht:(X,Y)∈(jT l).take n
       ·exact .inl ⟨(HP.out.last hmm ht).2,ht⟩
       ·exact .inr ⟨fun e=>ht ((take_mem_gt hnl).2 ⟨n-1,by omega,e⟩),ht⟩
     have HBX:Hid (Bk (w1.alloc (.cells #[.int .i64 X, .int .i64 Y] 32)) w1.heap.size #[.int .i64 X, .int .i64 Y] 32):=bx;clear bx
     rcases HN.out with ⟨hn0,hnew⟩|⟨hn0,⟨hlast,hold⟩|⟨hlast,hnew⟩⟩
     case' inr.inr =>
      obtain ⟨gp,cp,ep,pc0,pc1⟩:=own_cellsAt HO.out (i:=n-1) (by omega);rw [htk] at ep;cases ep;rw [gt_take (by omega)] at pc0 pc1;have hne:=eq_pair hlast;generalize (gt (jT l) (n-1)).1=PA at *;generalize (gt (jT l) (n-1)).2=PB at *;have i1:IntKind.i64.wrap ((n:Int)-1)=((n-1:Nat):Int):=by rw [IntKind.wrap_i64];omega
      have g0:decide ((0:Int)<(n:Int))=true:=by simp;omega
      have g1:((n-1:Nat):Int)<(n:Int):=by omega
      rcases hne with hne|⟨hxe,hne⟩
      case' inr=>rw [hxe] at pc0;clear hxe
     case' inl =>
      have g0:decide ((0:Int)<(n:Int))=false:=by simp;omega
      have g0n:decide (0<n)=false:=by simp;omega
      clear hn0
     case inr.inl =>
      obtain ⟨gp,cp,ep,pc0,pc1⟩:=own_cellsAt HO.out (i:=n-1) (by omega);rw [htk] at ep;cases ep;rw [gt_take (by omega),hlast] at pc0 pc1;have i1:IntKind.i64.wrap ((n:Int)-1)=((n-1:Nat):Int):=by rw [IntKind.wrap_i64];omega
      have g0:decide ((0:Int)<(n:Int))=true:=by simp;omega
      have g1:((n-1:Nat):Int)<(n:Int):=by omega
      have HOld:=(show Hid ((X,Y)∈(jT l).take n) from hold);clear hold hlast
      gi_wp2
      gi_quiet (fail)
      have hbq:Below (w1.alloc (.cells #[.int .i64 X, .int .i64 Y] 32)).heap.size (w1.alloc (.cells #[.int .i64 X, .int .i64 Y] 32)) ((w1.alloc (.cells #[.int .i64 X, .int .i64 Y] 32)).drewN nq):=⟨rfl,rfl,rfl,Nat.le_refl _,fun _ _=>rfl⟩;have ST:Hid (JtS l m hb J (.slice (some ⟨gp,0,none⟩) n capp) n c ((w1.alloc (.cells #[.int .i64 X, .int .i64 Y] 32)).drewN nq)):=⟨oK HO.out hbq,HH.out.keep hbq,HC.out.2.2,HP.out.skip HOld.out HC.out.2.1,by have:=HC.out.1;omega,HD.out.below hbq,hJ _ _ _ HJ1.out (HD.out.itBelow hbq)⟩;have HMM:Hid ((64-n)*64+c.length<(64-n)*64+next.length):=by show _<_;have:=HC.out.1;omega
      clear hbq
      gi_wp2
      go_roundw
      case rel=>exact ⟨n,c,ST.out⟩
      case measure=>rw [ST.out.meas,HM.out];exact HMM.out
     all_goals
      have hmm:(X,Y)∈next:=(HC.out.2.1 _).2 (.inl rfl);have hmin:∀ x∈next,leT (X,Y) x:=fun x hx=>by rw [<- HG.out];exact heap_min HS.out.low hx
      obtain ⟨hnn,hgn⟩:=HP.out.next hmm hmin hnew;have HMN:=(show Hid (((X,Y)∈next/\∀ x∈next,leT (X,Y) x)/\n<(jT l).length/\gt (jT l) n=(X,Y)) from ⟨⟨hmm,hmin⟩,hnn,hgn⟩);have HT:Hid ((jT l).take (n+1)=(jT l).take n++[(X,Y)]):=by
       show _=_
       rw [List.take_add_one,<-hgn];unfold gt;simp [List.getD_eq_getElem?_getD,List.getElem?_eq_getElem hnn]
      clear hmm hmin hgn hnew
      gi_wp2
      gi_quiet (fail)
      have hbq:Below (w1.alloc (.cells #[.int .i64 X, .int .i64 Y] 32)).heap.size (w1.alloc (.cells #[.int .i64 X, .int .i64 Y] 32)) ((w1.alloc (.cells #[.int .i64 X, .int .i64 Y] 32)).drewN nq):=⟨rfl,rfl,rfl,Nat.le_refl _,fun _ _=>rfl⟩;have HDq:Hid (Dj _ _ _ _ _):=HD.out.below hbq;have HOq:Hid (Own _ _ _ _):=oK HO.out hbq;have HHq:Hid (Hp _ _ _):=HH.out.keep hbq;have hJq:=hJ _ _ _ HJ1.out (HD.out.itBelow hbq);have HBXq:Hid (Bk ((w1.alloc (.cells #[.int .i64 X, .int .i64 Y] 32)).drewN nq) w1.heap.size #[.int .i64 X, .int .i64 Y] 32):=HBX.out.keep hbq;have x0q:=HBXq.out.two.1;have x1q:=HBXq.out.two.2.1;have HXq:Hid (arrOf ((w1.alloc (.cells #[.int .i64 X, .int .i64 Y] 32)).drewN nq) m≠some w1.heap.size/\arrOf ((w1.alloc (.cells #[.int .i64 X, .int .i64 Y] 32)).drewN nq) hb≠some w1.heap.size/\w1.heap.size≠hb/\w1.heap.size≠m/\w1.heap.size<((w1.alloc (.cells #[.int .i64 X, .int .i64 Y] 32)).drewN nq).heap.size):=by
       have k1:=HD.out.mB;have k2:=HD.out.wB;have k3:=HD.out.hw;have k4:=HX.out;refine ⟨?_,?_,k4.2.2.2.2,?_,Nat.lt_of_lt_of_le k4.1 hbq.size⟩
       ·rw [aB (hbq.block m (by omega))];exact k4.2.2.1
       ·rw [aB (hbq.block hb (by omega))];exact k4.2.2.2.1
       ·have k5:(w1.alloc (.cells #[.int .i64 X, .int .i64 Y] 32)).heap.size=w1.heap.size+1:=by simp
        have:=k4.2.2.2.2;omega
      obtain ⟨fn,tmps,assign,body,hy,hR⟩:=hY ((jT l).take n) (X,Y) _ hJq (by rw [htk];omega) ⟨n,HMN.out.2.1,rfl,HMN.out.2.2⟩;clear hbq hJq HX HBX HH HO HD HJ1 x0 x1 g0
      try clear g0n
      gi_wp2
      refine hR.mono ?_;rintro e W3 ⟨rfl,hJ3,hk3⟩;obtain ⟨hH3,hD3⟩:=HDq.out.hpKpA hk3 HHq.out;have hO3:Own W3 hb _ _:=HDq.out.ownKpA hk3 HOq.out;have hb3:=hk3.bk HBXq.out HXq.out.2.2.2.1 HXq.out.1;have ha3:arrOf W3 hb≠some w1.heap.size:=by
       have e1:=hk3;obtain ⟨v,q1,q2,q3⟩:=HHq.out;have q4:=(HDq.out.kpa hk3 q1).1;rw [arrOf_bk q4,<-arrOf_bk q1];exact HXq.out.2.1
      have hbh:w1.heap.size≠hb:=HXq.out.2.2.1;rw [<- HT.out] at hJ3;clear hR hy x0q x1q HDq HOq HHq HBXq HXq hk3;obtain ⟨pv,hpv,hO4,hD4⟩:=own_name hO3 hD3;have HPV:=(show Hid (_=pv) from hpv);have hST:JiS l m hb w1.heap.size J pv n c X Y 0 c W3:=⟨hO4,hH3,HC.out.2.2,rfl,fun x=>by simp,hD4,hJ3,hb3,ha3,hbh⟩;have HST:=(show Hid (JiS l m hb w1.heap.size J pv n c X Y 0 c W3) from hST);clear hpv hO3 hD3 hO4 hD4 hH3 hJ3 hb3 ha3 hbh hST;generalize w1.heap.size=bt at *
      gi_wp2
      gi_loopw [49] (fun i wr=>∃ (k:Nat) (c':LI),k<=n/\i= .int .i64 k/\JiS l m hb bt J pv n c X Y k c' wr) (fun i _=>n-(intOf i).toNat)
      case atStart=>exact ⟨0,c,by omega,rfl,HST.out⟩
      case round =>
       clear HST;obtain ⟨k,c',hkn,rfl,hI⟩:=hrel;have HI:=(show Hid (JiS l m hb bt J pv n c X Y k c' wr) from hI)
       by_cases hlt:k<n
       ·obtain ⟨g2,cp2,e2,pc0,pc1⟩:=own_cellsAt hI.own (i:=k) (by omega);rw [htk] at e2;rw [gt_take hlt] at pc0 pc1;have e3:=HPV.out.trans e2;cases e3;have HJN:Hid ((jnA (gt (jT l) k).1 (gt (jT l) k).2 X Y,jnB (gt (jT l) k).1 (gt (jT l) k).2 X Y)=jnT (gt (jT l) k) (X,Y)):=by
         have h1:=HMN.out.2;exact jnT_prog (gt_mem (by omega)) (show (X,Y)∈jT l by rw [<- h1.2];exact gt_mem h1.1)
        have ik:(k:Int)<(n:Int):=by omega
        generalize hA:(gt (jT l) k).1=A at *;generalize hB:(gt (jT l) k).2=B at *;have hba:Below wr.heap.size wr (wr.alloc (.cells #[.int .i64 A, .int .i64 B] 32)):=bAz (Below.refl _ _) _;obtain ⟨y0,y1,_,_⟩:=(hI.bx.keep hba).two;have hlen:=hI.len;have HLN:Hid (c'.length+1<=1000000):=by show _<=_;have:=HC.out.1;omega
        clear hI hA hB hlen e2
        gi_wp2
        refine ⟨trivial,?_⟩;refine CallsIn.mono (callsIn_wide.2 (implJoin_any A B X Y _)) ?_;rintro e w5 ⟨rfl,hb5⟩;have hb6:=bSz hba hb5;have HB6:=(show Hid (Below wr.heap.size wr w5) from hb6);clear hba hb5 hb6 y0 y1 pc0 pc1
        gi_wp2
        refine ⟨trivial,?_⟩;refine CallsIn.mono (callsIn_wide.2 (hPush_any (X:=jnA A B X Y) (Y:=jnB A B X Y) (HI.out.hp.keep HB6.out) HI.out.low HLN.out)) ?_;rintro e w7 ⟨rfl,c7,p1,p2,p3,p4,p5⟩;have HST7:Hid (JiS l m hb bt J _ n c X Y (k+1) c7 w7):=HI.out.step hJ HB6.out p5 p1 p2 (fun x=>by rw [p3,HJN.out]) p4;clear p1 p2 p3 p4 p5
        gi_wp2
        go_roundw
        case rel=>exact ⟨k+1,c7,by omega,by go_num,HST7.out⟩
        case measure=>simp [intOf];omega
       ·obtain rfl:k=n:=by omega
        have hba:Below wr.heap.size wr (wr.alloc (.cells #[.int .i64 X, .int .i64 Y] 32)):=bAz (Below.refl _ _) _;have bt2:Bk (wr.alloc (.cells #[.int .i64 X, .int .i64 Y] 32)) wr.heap.size #[.int .i64 X, .int .i64 Y] 32:=Bk.new _ _ rfl;obtain ⟨y0,y1,_,_⟩:=hI.bx.two;obtain ⟨g4,cap4,w4,hrun,o1,o2,o3,o4⟩:=appT_run 27 27 Tryz.underlying27 (oK hI.own hba) wr.heap.size X Y bt2 (by omega) (by have:=hI.dj.wB;have:=hba.size;omega);have HST8:Hid (JtS l m hb J (.slice (some ⟨g4,0,none⟩) (((jT l).take k).length+1) cap4) (k+1) c' w4) :=
         jts_told HP.out HMN.out.1.1 HMN.out.1.2 HMN.out.2.1 HMN.out.2.2 HS.out.le ⟨HC.out.1,HC.out.2.1⟩ hI.len hI.mem hI.low (hI.hp.keep hba) (hI.dj.below hba) hJ (hJ _ _ _ hI.jj (hI.dj.itBelow hba)) o2 (by
          rcases o3 with o3|o3
          ·exact .inl (by rw [o3];rfl)
          ·exact .inr ⟨by rw [<- o3];rfl,by omega⟩) o1
        have HMM:Hid ((64-(k+1))*64+c'.length<(64-k)*64+next.length):=by show _<_;have:=HC.out.1;have:=hI.len;have:=HMN.out.2.1;omega
        have e3:=HPV.out;subst e3;clear o1 o2 o3 o4 hba bt2 hI;rw [htk] at hrun HST8
        gi_wp2_with (gi_at_builtin;refine wpListIn_app0 rfl _ _ _ rfl rfl rfl hrun ?_)
        go_roundw
        case rel=>exact ⟨k+1,c',HST8.out⟩
        case measure=>rw [HST8.out.meas,HM.out];exact HMM.out
attribute [local go_sem] Oper.semAt_some
theorem joinedTimes_any (a:Option Addr) (n cap:Nat) (w:World) :
  Calls Tryz.prog 245 #[.slice a n cap] w fun e w'=>e= .returned (.func (.func 261) #[] #[.pointer (some ⟨w.heap.size,0,none⟩)])/\w'=w.alloc (.cells #[.slice a n cap] 28):=by
 go_enter Tryz.func245,Tryz.ntmps245;go_wp2_with fail;go_ret;exact ⟨rfl,rfl⟩
theorem rowsK_yes {l:List Rw} {k:Nat} {r:Rw} {key:Int} (h:l[k]?=some r) (e:r.1.1.1=key):rowsK (l.take (k+1)) key=rowsK (l.take k) key++[r]:=by
 unfold rowsK;rw [tSz h,List.filter_append];simp [e]
theorem rowsK_no {l:List Rw} {k:Nat} {r:Rw} {key:Int} (h:l[k]?=some r) (e:r.1.1.1≠key):rowsK (l.take (k+1)) key=rowsK (l.take k) key:=by
 unfold rowsK;rw [tSz h,List.filter_append];simp [e]
theorem rowsK_len (l:List Rw) (key:Int):(rowsK l key).length<=l.length:=List.length_filter_le _ _
theorem rowsK_ok {l:List Rw} (h:rokB l=true) (key:Int):rokB (rowsK l key)=true :=
 rok_mk (Nat.le_trans (rowsK_len l key) (rLz h)) fun _ hr=>rok_at h (List.mem_filter.1 hr).1
theorem rowsOf_any (v:Value) (l:List Rw) (key:Int) (w:World) (h:Rs w v l) (hl:l.length<=400) :
  Calls Tryz.prog 225 #[v, .int .i64 key] w fun e w'=>∃ o:Value,e= .returned o/\OwnR w' w.heap.size o (rowsK l key)/\Below w.heap.size w w':=by
 obtain ⟨a,cap,rfl,hc,hm,hn,hcells⟩:=Rs.open h;unfold maxLen at hm;have HC:=(show Hid _ from hcells);clear hcells h;go_enter Tryz.func225,Tryz.ntmps225;go_wp2_with fail
 go_loopw [5,10] (fun o b wr=>∃ k:Nat,k<=l.length/\b= .int .i64 k/\OwnR wr w.heap.size o (rowsK (l.take k) key)/\Below w.heap.size w wr) (fun _ b _=>l.length-(intOf b).toNat)
 case atStart=>exact ⟨0,by omega,rfl,by simpa [rowsK] using oN _ _ _ _ _,Below.refl _ _⟩
 case round =>
  obtain ⟨k,hk,rfl,hown,hb⟩:=hrel;have O1:Hid (OwnR wr w.heap.size u5 (rowsK (l.take k) key)):=hown;have hlen:(rowsK (l.take k) key).length<=400:=Nat.le_trans (rowsK_len _ _) (by rw [List.length_take];omega);have hszr:=hb.size
  by_cases hlt:k<l.length
  ·obtain ⟨g,off,K,V,A,B,D,rfl,hg,hr,c0,c1,c2,c3,c4⟩:=HC.out k hlt;have HR:=(show Hid _ from hr);have q0:=cB hb c0;have q1:=cB hb c1;have q2:=cB hb c2;have q3:=cB hb c3;have q4:=cB hb c4;have ii:((k:Int)<(l.length:Int)):=by omega
   have hba:Below wr.heap.size wr (wr.alloc (.cells #[.int .i64 K, .int .i64 V, .int .i64 A, .int .i64 B, .int .i64 D] 55)):=bAz (Below.refl _ _) _;clear c0 c1 c2 c3 c4 hr hown
   by_cases hK:K=key
   ·have HZ:Hid (rowsK (l.take (k+1)) key=rowsK (l.take k) key++[(((K,V),(A,B)),D)]):=rowsK_yes HR.out hK;subst hK;have O2:OwnR (wr.alloc (.cells #[.int .i64 K, .int .i64 V, .int .i64 A, .int .i64 B, .int .i64 D] 55)) w.heap.size u5 (rowsK (l.take k) K):=oK O1.out hba;have hb2:=bSz hb hba;generalize rowsK (l.take k) K=l1 at *
    go_wp2_with (at_builtin;refine appR _ rfl _ _ rfl w.heap.size _ _ rfl (O2.alloc _) _ _ _ _ _ _ rfl (Bk.new _ _ (by simp)) (by omega) (by simp;omega) ?_;intro g3 cap3 w3 own3 hgrow hlg)
    have hb6:Below w.heap.size w w3:=Below.grew (bAz hb2 _) hgrow (by simp;omega) (own_base O1.out);go_roundw
    case rel=>exact ⟨k+1,by omega,by go_num,by rw [HZ.out];exact own3,hb6⟩
    case measure=>simp [intOf];omega
   ·have HZ:Hid (rowsK (l.take (k+1)) key=rowsK (l.take k) key):=rowsK_no HR.out hK;have nx:(K==key)=false:=beq_eq_false_iff_ne.2 hK;go_wp2_with fail;go_roundw
    case rel=>exact ⟨k+1,by omega,by go_num,by rw [HZ.out];exact oK O1.out hba,bSz hb hba⟩
    case measure=>simp [intOf];omega
  ·obtain rfl:k=l.length:=by omega
   rw [List.take_length] at O1;clear hown;go_wp2_with fail;go_ret;exact ⟨_,rfl,O1.out,hb⟩
theorem joined_seq (b1 m:Nat) (a:Option Addr) (cap:Nat) (l:List Rw) (w0:World) (hk:rokB l=true) (hRs:Rs w0 (.slice a l.length cap) l) (hb1:Bk w0 b1 #[.slice a l.length cap] 28) (hm:m<w0.heap.size) (ha:∀ q,arrOf w0 m=some q->q<w0.heap.size) :
  SeqIt m Fence.wide 3 Tryz.prog 261 #[.pointer (some ⟨b1,0,none⟩)] (fun t:Int×Int=>#[tv t.1 t.2]) (fun xs=>xs=jT l) (PfJ l) 64 w0 :=
 fun lp J W hWb hJ hY h0=>joined1_in lp b1 m a cap l J W hJ hY hk (hRs.keep hWb) (hb1.keep hWb) (by have:=hWb.size;omega)
  (fun q e=>by rw [aB (hWb.block m hm)] at e;have:=ha q e;have:=hWb.size;omega) h0
attribute [local go_sem] Oper.semAt_some
theorem l11Has_any (v:Value) (T:LI) (X Y:Int) (w:World) (h:Ts w v T) :
  Calls Tryz.prog 268 #[v,tv X Y] w fun e w'=>e= .returned (.bool (decide ((X,Y)∈T)))/\Below w.heap.size w w':=by
 obtain ⟨a,cap,rfl,hc,hm,hn,hcells⟩:=h;unfold maxLen at hm;have HC:=(show Hid _ from hcells);have hba:Below w.heap.size w (w.alloc (.cells #[.int .i64 X, .int .i64 Y] 32)):=bAz (Below.refl _ _) _;have bx:Bk (w.alloc (.cells #[.int .i64 X, .int .i64 Y] 32)) w.heap.size #[.int .i64 X, .int .i64 Y] 32:=Bk.new _ _ rfl;clear hcells;go_enter Tryz.func268,Tryz.ntmps268;go_wp2_with fail;generalize w.alloc (.cells #[.int .i64 X, .int .i64 Y] 32)=w1 at *
 go_loopw [5] (fun i wr=>∃ k:Nat,k<=T.length/\i= .int .i64 k/\(∀ j,j<k->gt T j≠(X,Y))/\Below w1.heap.size w1 wr) (fun i _=>T.length-(intOf i).toNat)
 case atStart=>exact ⟨0,by omega,rfl,fun j hj=>by omega,Below.refl _ _⟩
 case round =>
  obtain ⟨k,hk,rfl,hno,hb⟩:=hrel;have HNO:=(show Hid (∀ j,j<k->gt T j≠(X,Y)) from hno);have hbw:=bSz hba hb;clear hno
  by_cases hlt:k<T.length
  ·obtain ⟨g,off,rfl,hg,c0,c1⟩:=HC.out k hlt;have d0:=cB hbw c0;have d1:=cB hbw c1;obtain ⟨x0,x1,_,_⟩:=(bx.keep hb).two;have ik:(k:Int)<(T.length:Int):=by omega
   have HT:Hid (gt T k=(tA T k,tB T k)):=gt_tv T k;clear c0 c1
   by_cases hX:tA T k=X
   ·by_cases hY:tB T k=Y
    ·have HY:Hid (decide ((X,Y)∈T)=true):=by show _=_;rw [decide_eq_true_eq,<-hX,<-hY,<-HT.out];exact gt_mem hlt
     rw [hX] at d0;rw [hY] at d1;go_wp2_with fail
     go_quiet (fail)
     go_wp2_with fail;go_ret;exact ⟨by rw [HY.out];rfl,bSz hbw ⟨rfl,rfl,rfl,Nat.le_refl _,fun _ _=>rfl⟩⟩
    ·have HN:Hid (gt T k≠(X,Y)):=fun e=>hY (by rw [HT.out] at e;exact (Prod.mk.inj e).2);have ny:(tB T k==Y)=false:=beq_eq_false_iff_ne.2 hY;rw [hX] at d0;generalize tB T k=Y' at *;go_wp2_with fail
     go_quiet (fail)
     go_wp2_with fail;go_roundw
     case rel=>exact ⟨k+1,by omega,by go_num,(fun j hj=>by by_cases e:j=k;(rw [e];exact HN.out);exact HNO.out j (by omega)),bSz hb ⟨rfl,rfl,rfl,Nat.le_refl _,fun _ _=>rfl⟩⟩
     case measure=>simp [intOf];omega
   ·have HN:Hid (gt T k≠(X,Y)):=fun e=>hX (by rw [HT.out] at e;exact (Prod.mk.inj e).1);have nx:(tA T k==X)=false:=beq_eq_false_iff_ne.2 hX;generalize tA T k=X' at *;generalize tB T k=Y' at *;go_wp2_with fail
    go_quiet (fail)
    go_wp2_with fail;go_roundw
    case rel=>exact ⟨k+1,by omega,by go_num,(fun j hj=>by by_cases e:j=k;(rw [e];exact HN.out);exact HNO.out j (by omega)),bSz hb ⟨rfl,rfl,rfl,Nat.le_refl _,fun _ _=>rfl⟩⟩
    case measure=>simp [intOf];omega
  ·obtain rfl:k=T.length:=by omega
   have HY:Hid (decide ((X,Y)∈T)=false):=by
    show _=_
    rw [decide_eq_false_iff_not];intro e;obtain ⟨j,hj,e⟩:=mem_gt e;exact HNO.out j hj e
   go_wp2_with fail;go_ret;exact ⟨by rw [HY.out];rfl,hbw⟩
theorem own_slice0 {w:World} {B:Nat} {v:Value} {l:LI} (h:Own w B v l):∃ ad cap,v= .slice ad l.length cap:=by
 rcases own_open h with ⟨rfl,rfl⟩|⟨g,cap,c,rfl,_⟩
 ·exact ⟨_,_,rfl⟩
 ·exact ⟨_,_,rfl⟩
theorem nodup_le:∀ (T G:LI),T.Nodup->(∀ x∈T,x∈G)->T.length<=G.length
 | [],_,_,_=>Nat.zero_le _
 | x::T,G,h,hs=>by
  rw [List.nodup_cons] at h;have hx:=hs x (by simp);have h1:=nodup_le T (G.erase x) h.2 (fun y hy=>(List.mem_erase_of_ne (fun e=>h.1 (by rw [<- e];exact hy))).2 (hs y (by simp [hy])));have h2:=List.length_erase_of_mem hx;have h3:=List.length_pos_of_mem hx;simp only [List.length_cons];omega
structure GtI (l:List Rw) (T:LI) (i j:Nat):Prop where
 nd:T.Nodup
 inn:∀ x∈T,x∈jT l
 rows:∀ r∈l,r.1.2∈T
 joins:∀ p q,p<i->q<p->jnT (gt T p) (gt T q)∈T
 part:∀ q,q<j->jnT (gt T i) (gt T q)∈T
theorem GtI.len {l:List Rw} {T:LI} {i j:Nat} (h:GtI l T i j):T.length<=64:=Nat.le_trans (nodup_le T _ h.nd h.inn) (jtimes_len l)
theorem GtI.outer {l:List Rw} {T:LI} {i:Nat} (h:GtI l T i i):GtI l T (i+1) 0 :=
 ⟨h.nd,h.inn,h.rows,fun p q hp hq=>by
  by_cases e:p=i
  ·subst e;exact h.part q hq
  ·exact h.joins p q (by omega) hq,fun q hq=>by omega⟩
theorem GtI.same {l:List Rw} {T:LI} {i j:Nat} (h:GtI l T i j) (hj:jnT (gt T i) (gt T j)∈T):GtI l T i (j+1) :=
 ⟨h.nd,h.inn,h.rows,h.joins,fun q hq=>by
  by_cases e:q=j
  ·subst e;exact hj
  ·exact h.part q (by omega)⟩
theorem GtI.more {l:List Rw} {T:LI} {i j:Nat} (h:GtI l T i j) (hi:i<T.length) (hji:j<i) (hj:jnT (gt T i) (gt T j) ∉ T):GtI l (T++[jnT (gt T i) (gt T j)]) i (j+1):=by
 have hg:∀ p,p<T.length->gt (T++[jnT (gt T i) (gt T j)]) p=gt T p:=fun p hp=>gt_app1 hp;refine ⟨?_,fun x hx=>?_,fun r hr=>List.mem_append_left _ (h.rows r hr),fun p q hp hq=>?_,fun q hq=>?_⟩
 ·rw [List.nodup_append];refine ⟨h.nd,by simp,fun a ha b hb=>?_⟩;simp at hb;subst hb;intro e;subst e;exact hj ha
 ·rcases List.mem_append.1 hx with hx|hx
  ·exact h.inn x hx
  ·simp at hx;subst hx;exact jt_join (h.inn _ (gt_mem hi)) (h.inn _ (gt_mem (by omega)))
 ·rw [hg p (by omega),hg q (by omega)];exact List.mem_append_left _ (h.joins p q hp hq)
 ·rw [hg i hi,hg q (by omega)]
  by_cases e:q=j
  ·subst e;simp
  ·exact List.mem_append_left _ (h.part q (by omega))
theorem GtI.fin {l:List Rw} {T:LI} {i:Nat} (h:GtI l T i 0) (hi:T.length<=i):grid.filter (fun t=>decide (t∈T))=jT l:=by
 unfold jT;refine List.filter_congr fun t ht=>?_;rw [Bool.eq_iff_iff,decide_eq_true_eq];constructor
 ·intro e;exact (jtimes_mem.1 (h.inn t e)).2
 ·intro e;rw [inJ_iff] at e;obtain ⟨p,hp,q,hq,e1,e2⟩:=e;obtain ⟨a,ha,ea⟩:=mem_gt (h.rows p hp);obtain ⟨b,hb,eb⟩:=mem_gt (h.rows q hq);have hj:jnT p.1.2 q.1.2=t:=Prod.ext e1 e2;rw [<- hj,<-ea,<-eb]
  rcases Nat.lt_trichotomy a b with hab|hab|hab
  ·rw [jnT_comm];exact h.joins b a (by omega) hab
  ·subst hab;rw [jnT_self];exact gt_mem ha
  ·exact h.joins a b (by omega) hab
theorem ownT_empty (w:World) {B:Nat} (hB:B=w.heap.size):Own (w.alloc (.cells #[] 32)) B (.slice (some ⟨B,0,none⟩) 0 0) []:=by
 subst hB;exact own_empty w _ 2
structure OnT (l:List Rw) (T:LI):Prop where
 nd:T.Nodup
 mem:∀ x,x∈T↔x∈l.map fun r=>r.1.2
theorem OnT.len {l:List Rw} {T:LI} (h:OnT l T):T.length<=l.length:=by
 have:=nodup_le T _ h.nd (fun x hx=>(h.mem x).1 hx);rw [List.length_map] at this;exact this
theorem OnT.nil:OnT [] []:=⟨by simp,by simp⟩
theorem OnT.yes {l:List Rw} {T:LI} {r:Rw} (h:OnT l T) (hr:r.1.2∈T):OnT (l++[r]) T:=⟨h.nd,fun x=>by
 rw [h.mem,List.map_append,List.mem_append];constructor
 ·exact .inl
 ·rintro (e|e)
  ·exact e
  ·simp at e;subst e;exact (h.mem _).1 hr⟩
theorem OnT.no {l:List Rw} {T:LI} {r:Rw} (h:OnT l T) (hr:r.1.2 ∉ T):OnT (l++[r]) (T++[r.1.2]):=⟨by
 rw [List.nodup_append];refine ⟨h.nd,by simp,fun a ha b hb=>?_⟩;simp at hb;subst hb;intro e;subst e;exact hr ha,fun x=>by
 rw [List.map_append,List.mem_append,List.mem_append,h.mem];simp⟩
theorem OnT.start {l:List Rw} {T:LI} (h:OnT l T) (hk:rokB l=true):GtI l T 0 0 :=
 ⟨h.nd,fun x hx=>by
  obtain ⟨r,hr,rfl⟩:=List.mem_map.1 ((h.mem x).1 hx);exact jt_self hk hr,fun r hr=>(h.mem _).2 (List.mem_map_of_mem hr),fun p q hp=>by omega,fun q hq=>by omega⟩
theorem row_snoc (a b:Nat):gridRow a (b+1)=gridRow a b++[((a:Int),(b:Int))]:=by
 unfold gridRow;rw [List.range_succ,List.map_append];rfl
theorem to_snoc (a:Nat):gridTo (a+1)=gridTo a++gridRow a 8:=by
 unfold gridTo;rw [List.range_succ,List.flatMap_append];simp
theorem gridTo_len:∀ x:Nat,(gridTo x).length=x*8
 | 0=>rfl
 | x+1=>by rw [to_snoc,List.length_append,gridTo_len x];unfold gridRow;rw [List.length_map,List.length_range];omega
theorem glen {x y:Nat} (hx:x<=8) (hy:y<=8) (p:Int×Int->Bool):((gridTo x++gridRow x y).filter p).length<=2000000:=by
 have h1:=List.length_filter_le p (gridTo x++gridRow x y);have h2:(gridRow x y).length=y:=by unfold gridRow;rw [List.length_map,List.length_range]
 rw [List.length_append,gridTo_len,h2] at h1;omega
theorem specFlowTimes_any (v:Value) (l:List Rw) (key:Int) (w:World) (h:Rs w v l) :
  Calls Tryz.prog 255 #[v, .int .i64 key] w fun e w'=>∃ o:Value,e= .returned o/\Own w' w.heap.size o (ftimesL l key)/\Below w.heap.size w w':=by
 have HH:=(show Hid (Rs w v l) from h);obtain ⟨a,cap,rfl,hc,hm,hn,hcells⟩:=Rs.open h;unfold maxLen at hm;have HC:=(show Hid _ from hcells);clear hcells h;obtain ⟨L,HFT,HL⟩:∃ L,Hid (ftimesL l key=jT L)/\Hid (rokB L=true/\(rokB l=true->L=rowsK l key)/\(rokB l=false->L=[])):=by
  cases hk:rokB l
  ·exact ⟨[],by show _=_;unfold ftimesL jT;rw [hk];exact (List.filter_eq_nil_iff.2 (fun x _=>by simp [inJ])).symm,by decide,by simp,by simp⟩
  ·exact ⟨rowsK l key,by show _=_;unfold ftimesL;rw [hk];rfl,rowsK_ok hk key,by simp,by simp⟩
 have hb0:Below w.heap.size w (w.alloc (.cells #[] 32)):=bAz (Below.refl _ _) _;have HO0:Hid (Own (w.alloc (.cells #[] 32)) w.heap.size (.slice (some ⟨w.heap.size,0,none⟩) 0 0) []):=ownT_empty w rfl;go_enter Tryz.func255,Tryz.ntmps255;go_wp2_with fail
 go_loopw [5,6] (fun o b wr=>∃ (k:Nat) (T:LI),k<=l.length/\b= .int .i64 k/\(0<k->rokB l=true)/\Own wr w.heap.size o T/\OnT (rowsK (l.take k) key) T/\Below w.heap.size w wr) (fun _ b _=>l.length-(intOf b).toNat)
 case atStart=>exact ⟨0,[],by omega,rfl,by omega,HO0.out,by simpa [rowsK] using OnT.nil,hb0⟩
 case round =>
  clear HO0 hb0;obtain ⟨k,T,hk,rfl,hok,hown,hT,hb⟩:=hrel;have HO:Hid (Own wr w.heap.size u5 T):=hown;have HT:Hid (OnT (rowsK (l.take k) key) T):=hT;have HK:Hid (0<k->rokB l=true):=hok;have hTl:T.length<=2000000:=by
   have h1:=hT.len;have h2:=rowsK_len (l.take k) key;rw [List.length_take] at h2
   by_cases h0:0<k
   ·have:=rLz (hok h0);omega
   ·omega
  obtain ⟨adT,capT,rfl⟩:=own_slice0 hown;have hszr:=hb.size;clear hown hT hok
  by_cases hlt:k<l.length
  case' pos =>
   have ii:((k:Int)<(l.length:Int)):=by omega
   cases hrk:rokB l
  case pos.true =>
   obtain ⟨g,off,K,V,A,B,D,rfl,hg,hr,c0,c1,c2,c3,c4⟩:=HC.out k hlt;have HR:=(show Hid _ from hr);have q0:=cB hb c0;go_wp2_with fail;refine (sR hrk (HH.out.keep hb)).mono ?_;rintro e w1 ⟨rfl,hb1⟩;have hbw:=bSz hb hb1;have q0:=cB hbw c0;have q2:=cB hbw c2;have q3:=cB hbw c3;have HO1:Hid (Own w1 w.heap.size (.slice adT T.length capT) T):=oK HO.out hb1;have hsz1:=hbw.size;clear c0 c1 c2 c3 c4 hr hb hb1 HO
   by_cases hK:K=key
   ·have HZ:=(show Hid (rowsK (l.take (k+1)) key=rowsK (l.take k) key++[(((K,V),(A,B)),D)]) from rowsK_yes HR.out hK);subst hK
    by_cases hin:(A,B)∈T
    ·have HN:Hid (OnT (rowsK (l.take (k+1)) K) T):=by show OnT _ _;rw [HZ.out];exact HT.out.yes hin
     have hd:decide ((A,B)∈T)=true:=by simp [hin]
     go_wp2_with fail;refine (l11Has_any _ T A B w1 (Own.ts HO1.out (by omega))).mono ?_;rw [hd];rintro e w2 ⟨rfl,hb2⟩;have hbw2:=bSz hbw hb2;have HO2:Hid (Own w2 w.heap.size (.slice adT T.length capT) T):=oK HO1.out hb2;clear hb2 hbw;go_wp2_with fail;go_roundw
     case rel=>exact ⟨k+1,T,by omega,by go_num,(fun _=>by first|exact hrk|trivial),HO2.out,HN.out,hbw2⟩
     case measure=>simp [intOf];omega
    ·have HN:Hid (OnT (rowsK (l.take (k+1)) K) (T++[(A,B)])):=by show OnT _ _;rw [HZ.out];exact HT.out.no hin
     have hd:decide ((A,B)∈T)=false:=by simp [hin]
     go_wp2_with fail;refine (l11Has_any _ T A B w1 (Own.ts HO1.out (by omega))).mono ?_;rw [hd];rintro e w2 ⟨rfl,hb2⟩;have q2:=cB hb2 q2;have q3:=cB hb2 q3;have hbw2:=bSz hbw hb2;have OW:=oK HO1.out hb2;have hsz2:=hbw2.size;have HB:=own_base OW;clear hb2 hbw HO1
     go_wp2_with (at_builtin;refine appT _ rfl _ _ rfl w.heap.size _ T rfl (OW.alloc _) _ A B rfl (Bk.new _ _ rfl) (by omega) (by simp;omega) ?_;intro g3 cap3 w3 own3 hgrow hlg)
     have hb6:Below w.heap.size w w3:=Below.grew (bAz hbw2 _) hgrow (by simp;omega) HB;go_roundw
     case rel=>exact ⟨k+1,T++[(A,B)],by omega,by go_num,(fun _=>by first|exact hrk|trivial),own3,HN.out,hb6⟩
     case measure=>simp [intOf];omega
   ·have HZ:Hid (rowsK (l.take (k+1)) key=rowsK (l.take k) key):=rowsK_no HR.out hK;have nx:(K==key)=false:=beq_eq_false_iff_ne.2 hK;go_wp2_with fail;go_roundw
    case rel=>exact ⟨k+1,T,by omega,by go_num,(fun _=>by first|exact hrk|trivial),HO1.out,by rw [HZ.out];exact HT.out,hbw⟩
    case measure=>simp [intOf];omega
  case' pos.false =>
   go_wp2_with fail;refine (sR hrk (HH.out.keep hb)).mono ?_;rintro e w1 ⟨rfl,hb1⟩;have HG:Hid (Own w1 w.heap.size (.slice adT T.length capT) T/\GtI L T 0 0/\Below w.heap.size w w1):=by
    have hk0:k=0:=by
     by_cases e:0<k
     ·have:=HK.out e;rw [hrk] at this;cases this
     ·omega
    have:=HT.out;rw [hk0] at this;rw [HL.out.2.2 hrk];exact ⟨oK HO.out hb1,OnT.start (by simpa [rowsK] using this) (by decide),bSz hb hb1⟩
   clear hb1
  case' neg =>
   obtain rfl:k=l.length:=by omega
   have HG:Hid (Own wr w.heap.size (.slice adT T.length capT) T/\GtI L T 0 0/\Below w.heap.size w wr):=by
    have hrk:rokB l=true:=by
     by_cases e:0<l.length
     ·exact HK.out e
     ·have:l=[]:=List.eq_nil_of_length_eq_zero (by omega);subst this;decide
    have:=HT.out;rw [List.take_length] at this;rw [HL.out.2.1 hrk];exact ⟨HO.out,OnT.start this (rowsK_ok hrk key),hb⟩
  all_goals
   clear HO HT HK hb hszr HH HC;go_wp2_with fail
   go_loopw [5,7] (fun o b wr=>∃ (i:Nat) (T:LI),i<=T.length/\b= .int .i64 i/\Own wr w.heap.size o T/\GtI L T i 0/\Below w.heap.size w wr) (fun _ b _=>64-(intOf b).toNat)
   case atStart=>exact ⟨0,T,by omega,rfl,HG.out.1,HG.out.2.1,HG.out.2.2⟩
   case round =>
    clear HG hTl;obtain ⟨i,T,hi,rfl,hown,hG,hb⟩:=hrel;have hT64:=hG.len;obtain ⟨adT,capT,rfl⟩:=own_slice0 hown;have HO:Hid (Own wr w.heap.size (.slice adT T.length capT) T):=hown;have HG:Hid (GtI L T i 0):=hG;clear hown hG
    by_cases hlt:i<T.length
    ·have ii:((i:Int)<(T.length:Int)):=by omega
     go_wp2_with fail
     go_loopw [5,8] (fun o b wr=>∃ (j:Nat) (T:LI),j<=i/\i<T.length/\b= .int .i64 j/\Own wr w.heap.size o T/\GtI L T i j/\Below w.heap.size w wr) (fun _ b _=>i-(intOf b).toNat)
     case atStart=>exact ⟨0,T,by omega,hlt,rfl,HO.out,HG.out,hb⟩
     case round =>
      clear HG HO hb ii hlt hT64;obtain ⟨j,T2,hji,hiT,rfl,hown,hG,hb⟩:=hrel;have hT64:=hG.len
      by_cases hlt2:j<i
      ·obtain ⟨g2,cp2,e2,pi0,pi1⟩:=own_cellsAt hown hiT;obtain ⟨g2',cp2',e2',pj0,pj1⟩:=own_cellsAt hown (i:=j) (by omega);subst e2;cases e2';have HO:Hid (Own wr w.heap.size (.slice (some ⟨g2,0,none⟩) T2.length cp2) T2):=hown;have HG:Hid (GtI L T2 i j):=hG;have HJ:Hid ((jnA (gt T2 i).1 (gt T2 i).2 (gt T2 j).1 (gt T2 j).2,jnB (gt T2 i).1 (gt T2 i).2 (gt T2 j).1 (gt T2 j).2)=jnT (gt T2 i) (gt T2 j)):=jnT_prog (hG.inn _ (gt_mem hiT)) (hG.inn _ (gt_mem (by omega)));have ii:((i:Int)<(T2.length:Int)):=by omega
       have ij:((j:Int)<(T2.length:Int)):=by omega
       have ji:((j:Int)<(i:Int)):=by omega
       clear hown hG;generalize (gt T2 i).1=A at *;generalize (gt T2 i).2=B at *;generalize (gt T2 j).1=A2 at *;generalize (gt T2 j).2=B2 at *;have HX:Hid (∀ W,Below wr.heap.size wr W->(W.cell? ⟨g2,i*2,none⟩=some (.int .i64 A)/\W.cell? ⟨g2,i*2+1,none⟩=some (.int .i64 B))/\W.cell? ⟨g2,j*2,none⟩=some (.int .i64 A2)/\W.cell? ⟨g2,j*2+1,none⟩=some (.int .i64 B2)):=fun W hW=>⟨⟨cB hW pi0,cB hW pi1⟩,cB hW pj0,cB hW pj1⟩;have hcur:Below wr.heap.size wr wr.drew:=(Below.refl _ _).drew;have HC1:Hid (∀ W wc,Below wr.heap.size wr W->Below W.heap.size W wc->Below wr.heap.size wr wc):=fun W wc h1 h2=>bSz h1 h2;have HB2:Hid (∀ wc,Below (wr.alloc (.cells #[.int .i64 0, .int .i64 0] 32)).drew.heap.size (wr.alloc (.cells #[.int .i64 0, .int .i64 0] 32)).drew wc->Below wr.heap.size wr wc/\wc.frozen? ⟨wr.heap.size,0,none⟩=false/\wc.frozen? ⟨wr.heap.size,1,none⟩=false/\wc.cell? ⟨wr.heap.size,0,none⟩=some (.int .i64 0)/\wc.cell? ⟨wr.heap.size,1,none⟩=some (.int .i64 0)/\Hid (Bk wc wr.heap.size #[.int .i64 0, .int .i64 0] 32)):=fun wc hbc=>by
        have hz:Bk wc wr.heap.size #[.int .i64 0, .int .i64 0] 32:=((Bk.new (w:=wr) _ _ rfl).drew).keep hbc;exact ⟨bSz ((bAz (Below.refl _ _) _).drew) hbc,hz.free 0,hz.free 1,hz.two.1,hz.two.2.1,hz⟩
       go_wp2_with fail
       go_region_held3 (fun W=>(W.cell? ⟨g2,i*2,none⟩=some (.int .i64 A)/\W.cell? ⟨g2,i*2+1,none⟩=some (.int .i64 B))/\W.cell? ⟨g2,j*2,none⟩=some (.int .i64 A2)/\W.cell? ⟨g2,j*2+1,none⟩=some (.int .i64 B2))
        (first|exact HX.out _ hcur2|exact HX.out _ hcur|exact HX.out _ (bAz hcur2 _)|exact HX.out _ (bAz hcur _)|exact HX.out _ (bAz (Below.refl _ _) _).drew|exact HX.out _ ((hcur2.setCell (Nat.le_refl _) _).setCell (Nat.le_refl _) _))
        (first
         | (go_at_call 130;with_reducible refine (specJoin_any A B A2 B2 _).mono ?_;rintro e wc ⟨rfl,hbc⟩;have hcur2:Below wr.heap.size wr wc:=bSz hcur (id (α:=Below wr.drew.heap.size wr.drew wc) hbc))
         | (go_at_call 130;with_reducible refine (specJoin_any A B A2 B2 _).mono ?_;rintro e wc ⟨rfl,hbc⟩;obtain ⟨hcur2,z0,z1,z2,z3,ZB⟩:=HB2.out wc hbc))
       all_goals
        first
         | (have FB:Hid (Below wr.heap.size wr ((wc.setCell ⟨wr.heap.size,0,none⟩ (.int .i64 (jnA A B A2 B2))).setCell ⟨wr.heap.size,1,none⟩ (.int .i64 (jnB A B A2 B2)))):=(hcur2.setCell (Nat.le_refl _) _).setCell (Nat.le_refl _) _
            have FK:Hid (Bk ((wc.setCell ⟨wr.heap.size,0,none⟩ (.int .i64 (jnA A B A2 B2))).setCell ⟨wr.heap.size,1,none⟩ (.int .i64 (jnB A B A2 B2))) wr.heap.size #[.int .i64 (jnA A B A2 B2), .int .i64 (jnB A B A2 B2)] 32):=ZB.out.set01 _ _;clear z0 z1 z2 z3 ZB;generalize ((wc.setCell ⟨wr.heap.size,0,none⟩ (.int .i64 (jnA A B A2 B2))).setCell ⟨wr.heap.size,1,none⟩ (.int .i64 (jnB A B A2 B2)))=W5 at *)
         | (have FB:Hid (Below wr.heap.size wr (wc.alloc (.cells #[.int .i64 (jnA A B A2 B2), .int .i64 (jnB A B A2 B2)] 32))):=bAz hcur2 _
            have FK:Hid (Bk (wc.alloc (.cells #[.int .i64 (jnA A B A2 B2), .int .i64 (jnB A B A2 B2)] 32)) wc.heap.size #[.int .i64 (jnA A B A2 B2), .int .i64 (jnB A B A2 B2)] 32):=Bk.new _ _ rfl;generalize (wc.alloc (.cells #[.int .i64 (jnA A B A2 B2), .int .i64 (jnB A B A2 B2)] 32))=W5 at *)
        have HO5:Hid (Own W5 w.heap.size (.slice (some ⟨g2,0,none⟩) T2.length cp2) T2):=oK HO.out FB.out;have hb5:Below w.heap.size w W5:=bSz hb FB.out;obtain ⟨x0,x1,_,_⟩:=FK.out.two;generalize jnA A B A2 B2=JA at *;generalize jnB A B A2 B2=JB at *;clear HB2 HC1 HX FB FK hcur hcur2 hbc HO pi0 pi1 pj0 pj1 hb
        by_cases hin:(JA,JB)∈T2
        ·have HN:Hid (GtI L T2 i (j+1)):=HG.out.same (by rw [<- HJ.out];exact hin);have hd:decide ((JA,JB)∈T2)=true:=by simp [hin]
         clear HJ;go_wp2_with fail;refine (l11Has_any _ T2 JA JB W5 (Own.ts HO5.out (by omega))).mono ?_;rw [hd];rintro e w6 ⟨rfl,hb6⟩;have HO6:Hid (Own w6 w.heap.size (.slice (some ⟨g2,0,none⟩) T2.length cp2) T2):=oK HO5.out hb6;have hb7:=bSz hb5 hb6;clear hb6 hb5 x0 x1;go_wp2_with fail;go_roundw
         case rel=>exact ⟨j+1,T2,by omega,hiT,by go_num,HO6.out,HN.out,hb7⟩
         case measure=>simp [intOf];omega
        ·have HN:Hid (GtI L (T2++[(JA,JB)]) i (j+1)):=by
          show GtI _ _ _ _
          rw [HJ.out];exact HG.out.more hiT hlt2 (by rw [<- HJ.out];exact hin)
         have hd:decide ((JA,JB)∈T2)=false:=by simp [hin]
         clear HJ;go_wp2_with fail;refine (l11Has_any _ T2 JA JB W5 (Own.ts HO5.out (by omega))).mono ?_;rw [hd];rintro e w6 ⟨rfl,hb6⟩;have y0:=cB hb6 x0;have y1:=cB hb6 x1;have OW:=oK HO5.out hb6;have hb7:=bSz hb5 hb6;have hsz7:=hb7.size;have HB:=own_base OW;clear hb6 hb5 x0 x1 HO5
         go_wp2_with (at_builtin;refine appT _ rfl _ _ rfl w.heap.size _ T2 rfl (OW.alloc _) _ JA JB rfl (Bk.new _ _ rfl) (by omega) (by simp;omega) ?_;intro g8 cap8 w8 own8 hgrow hlg)
         have hb8:Below w.heap.size w w8:=Below.grew (bAz hb7 _) hgrow (by simp;omega) HB;go_roundw
         case rel=>exact ⟨j+1,T2++[(JA,JB)],by omega,by rw [List.length_append];omega,by go_num,own8,HN.out,hb8⟩
         case measure=>simp [intOf];omega
      ·obtain rfl:j=i:=by omega
       have HO:Hid (Own wr w.heap.size u5 T2):=hown;have HG2:Hid (GtI L T2 (j+1) 0):=hG.outer;clear hown hG;go_wp2_with fail;go_roundw
       case rel=>exact ⟨j+1,T2,by omega,by go_num,HO.out,HG2.out,hb⟩
       case measure=>simp [intOf];omega
    ·obtain rfl:i=T.length:=by omega
     obtain ⟨Wc,rfl⟩:∃ Wc,wr=Wc:=⟨_,rfl⟩;have HFN:Hid (grid.filter (fun t=>decide (t∈T))=jT L):=HG.out.fin (Nat.le_refl _);have HTS:Hid (Ts wr (.slice adT T.length capT) T):=Own.ts HO.out (by omega);have HE:Hid (Own (wr.alloc (.cells #[] 32)) wr.heap.size (.slice (some ⟨wr.heap.size,0,none⟩) 0 0) []):=ownT_empty wr rfl;have hbE:Below wr.heap.size wr (wr.alloc (.cells #[] 32)):=bAz (Below.refl _ _) _;have hszc:=hb.size;clear HO HG;go_wp2_with fail;obtain ⟨Wd,hWd⟩:∃ Wd,Wd=wr:=⟨_,rfl⟩;subst hWd
     go_loopw [10,11] (fun o b wq=>∃ x:Nat,x<=8/\b= .int .i64 x/\Own wq Wd.heap.size o ((gridTo x).filter fun t=>decide (t∈T))/\Below Wd.heap.size Wd wq) (fun _ b _=>8-(intOf b).toNat)
     case atStart=>exact ⟨0,by omega,rfl,HE.out,hbE⟩
     case round =>
      clear HE hbE;obtain ⟨x,hx,rfl,hown,hbq⟩:=hrel;have HO:Hid (Own wr Wd.heap.size u10 ((gridTo x).filter fun t=>decide (t∈T))):=hown;clear hown
      by_cases hlx:x<8
      ·have gx:(x:Int)<=7:=by omega
       go_wp2_with fail
       go_loopw [10,12] (fun o b wq=>∃ y:Nat,y<=8/\b= .int .i64 y/\Own wq Wd.heap.size o ((gridTo x++gridRow x y).filter fun t=>decide (t∈T))/\Below Wd.heap.size Wd wq) (fun _ b _=>8-(intOf b).toNat)
       case atStart=>exact ⟨0,by omega,rfl,by have:=HO.out;simpa [gridRow] using this,hbq⟩
       case round =>
        clear HO hbq;obtain ⟨y,hy,rfl,hown,hbq⟩:=hrel;have HO:Hid (Own wr Wd.heap.size u10 ((gridTo x++gridRow x y).filter fun t=>decide (t∈T))):=hown;clear hown;have hszq:=hbq.size
        by_cases hly:y<8
        ·have gy:(y:Int)<=7:=by omega
         have HZ:Hid ((gridTo x++gridRow x (y+1)).filter (fun t=>decide (t∈T))=(gridTo x++gridRow x y).filter (fun t=>decide (t∈T))++[((x:Int),(y:Int))].filter (fun t=>decide (t∈T))):=by
          show _=_;rw [row_snoc,<-List.append_assoc,List.filter_append]
         have hln:=glen hx hy (fun t=>decide (t∈T));generalize (gridTo x++gridRow x y).filter (fun t=>decide (t∈T))=G at *
         by_cases hin:((x:Int),(y:Int))∈T
         ·have hd:decide (((x:Int),(y:Int))∈T)=true:=by simp [hin]
          go_wp2_with fail;refine (l11Has_any _ T (x:Int) (y:Int) wr (HTS.out.keep hbq)).mono ?_;rw [hd];rintro e w6 ⟨rfl,hb6⟩;have OW:=oK HO.out hb6;have hb7:=bSz hbq hb6;have hsz7:=hb7.size;have HB:=own_base OW;clear hb6 HO hd
          go_wp2_with (at_builtin;refine appT _ rfl _ _ rfl Wd.heap.size _ G rfl (OW.alloc _) _ (x:Int) (y:Int) rfl (Bk.new _ _ rfl) (by omega) (by simp;omega) ?_;intro g8 cap8 w8 own8 hgrow hlg)
          have hb8:Below Wd.heap.size Wd w8:=Below.grew (bAz hb7 _) hgrow (by simp;omega) HB;go_roundw
          case rel=>exact ⟨y+1,by omega,by go_num,by rw [HZ.out];simpa [hin] using own8,hb8⟩
          case measure=>simp [intOf];omega
         ·have hd:decide (((x:Int),(y:Int))∈T)=false:=by simp [hin]
          go_wp2_with fail;refine (l11Has_any _ T (x:Int) (y:Int) wr (HTS.out.keep hbq)).mono ?_;rw [hd];rintro e w6 ⟨rfl,hb6⟩;have HO6:Hid (Own w6 Wd.heap.size u10 G):=oK HO.out hb6;have hb7:=bSz hbq hb6;clear hb6 HO hd;go_wp2_with fail;go_roundw
          case rel=>exact ⟨y+1,by omega,by go_num,by rw [HZ.out];simpa [hin] using HO6.out,hb7⟩
          case measure=>simp [intOf];omega
        ·obtain rfl:y=8:=by omega
         go_wp2_with fail;go_roundw
         case rel=>exact ⟨x+1,by omega,by go_num,by rw [to_snoc];exact HO.out,hbq⟩
         case measure=>simp [intOf];omega
      ·obtain rfl:x=8:=by omega
       obtain ⟨ad9,cp9,rfl⟩:=own_slice0 HO.out;go_wp2_with fail;go_ret;refine ⟨_,rfl,?_,hb.trans (hbq.mono hszc)⟩;rw [HFT.out,<-HFN.out];exact oLz HO.out hszc
end Go.Proofs.YtbdpcngcbnoioaaGreatDoor
