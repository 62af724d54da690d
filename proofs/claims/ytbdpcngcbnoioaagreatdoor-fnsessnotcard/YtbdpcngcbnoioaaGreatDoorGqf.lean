import Derived.Test.YtbdpcngcbnoioaaGreatDoorGqe
set_option maxRecDepth 100000
set_option maxHeartbeats 32000000
namespace Go.Proofs.YtbdpcngcbnoioaaGreatDoor
open Go.RowKit Go.Shelf
attribute [local go_sem ↓] Go.wp_at_zero Go.wp_at_succ
def InPost (s:SS) (i:Int) (l:List Rw) (w:World) (e:Ending) (w':World):Prop :=
 (∃ s',inS s i l=some s'/\∃ sp si sf sd,e= .returned (.tuple #[sv s.t.k s.t.n sp si sf sd, .bool true])/\SesN w' (fun z=>w.heap.size+2<=z) sp si sf sd s'/\Below w.heap.size w w') \/
 (inS s i l=none/\∃ sp si sf sd,e= .returned (.tuple #[sv 0 0 sp si sf sd, .bool false])/\SesN w' (fun z=>w.heap.size+2<=z) sp si sf sd zeroS/\Below w.heap.size w w')
theorem inS_no1 {s:SS} {i:Int} {l:List Rw} (h:(allS s).isSome=false\/inB i 0 1=false\/bokB l=false\/aheadL s.f l≠[]):inS s i l=none:=by
 unfold inS
 rcases h with h|h|h|h<;>simp [h]
theorem inS_of {s:SS} {i:Int} {l:List Rw} (h1:(allS s).isSome=true) (h2:inB i 0 1=true) (h3:bokB l=true) (h4:aheadL s.f l=[]):inS s i l=if (allS ⟨s.t,putK s.K i.toNat l,s.f,s.d⟩).isSome then some ⟨s.t,putK s.K i.toNat l,s.f,s.d⟩ else none:=by
 unfold inS;simp [h1,h2,h3,h4]
theorem putK_bok {s:SS} {j:Nat} {l:List Rw} (hj:j<s.K.length) (h:(allS ⟨s.t,putK s.K j l,s.f,s.d⟩).isSome=true):bokB (sumL ltS (s.K.getD j []++l))=true:=by
 obtain ⟨r,hr⟩:=Option.isSome_iff_exists.1 h;obtain ⟨_,h2,_⟩:=allS_some.1 hr;obtain ⟨a,b,e,_,ha,hb,_⟩:=flowR_some h2;have hm:sumL ltS (s.K.getD j []++l)∈putK s.K j l:=by
  unfold putK;exact List.mem_iff_getElem.2 ⟨j,by simpa using hj,by simp⟩
 simp only at e;rw [e] at hm;simp only [List.mem_cons,List.not_mem_nil,or_false] at hm
 rcases hm with h|h<;>(rw [h];assumption)
theorem own_beside {w V:World} {gI B B':Nat} {cc:Array Value} {v:Value} {l:List Rw} (hb:Bk w gI cc 28) (h:OwnR w B' v l) (hB:B<=B') (hv:∀ z,B<=z->z≠gI->z<w.heap.size->V.heap[z]?=w.heap[z]?):OwnR V B' v l :=
 oAz h fun q e=>hv q (by have:=oB h q e;omega) (by
  obtain ⟨d,hd⟩:=ownR_cells h e;exact bK hd hb (by decide)) (oT h q e)
theorem ly_put {w V:World} {gI q1 j B B':Nat} {cc:Array Value} {vs:List Value} {K:List (List Rw)} {u:Value} {S l:List Rw} (hK:K.length=2) (hj:j<2) (hq:2<=q1) (hm:q1<=maxLen) (hb:Bk w gI cc 28) (hc:∀ (k:Nat) (u:Value),vs[k]?=some u->cc[k]?=some u) (he:EoR w B vs K) (hu:OwnR w B' u S) (hB:B<=B') (hl:S.length<=2000) (hS:sumL ltS (K.getD j []++l)=S) (hV:V.heap[gI]?=(w.setCell ⟨gI,j,none⟩ u).heap[gI]?) (hv:∀ z,B<=z->z≠gI->z<w.heap.size->V.heap[z]?=w.heap[z]?):LyR V (.slice (some ⟨gI,0,none⟩) K.length q1) (putK K j l):=by
 obtain ⟨k0,k1,rfl⟩:=two_of hK;obtain ⟨v0,v1,rfl⟩:=two_of (show vs.length=2 by rw [he.1];rfl);have e0:=hc 0 v0 rfl;have e1:=hc 1 v1 rfl;have hz:1<cc.size:=(Array.getElem?_eq_some_iff.1 e1).1;have o0:=own_beside hb (he.2.1 0 v0 k0 rfl rfl) (Nat.le_refl _) hv;have o1:=own_beside hb (he.2.1 1 v1 k1 rfl rfl) (Nat.le_refl _) hv;have ou:=own_beside hb hu hB hv;have l0:=he.2.2 k0 (by simp);have l1:=he.2.2 k1 (by simp);have bN:Bk V gI (cc.setIfInBounds j u) 28:=by unfold Bk;rw [hV];exact hb.set j u
 have hs:(cc.setIfInBounds j u)[j]?=some u:=Array.getElem?_setIfInBounds_self_of_lt (by omega);have hs0:j≠0->(cc.setIfInBounds j u)[0]?=some v0:=fun h=>by rw [Array.getElem?_setIfInBounds_ne h];exact e0
 have hs1:j≠1->(cc.setIfInBounds j u)[1]?=some v1:=fun h=>by rw [Array.getElem?_setIfInBounds_ne h];exact e1
 obtain rfl|rfl:j=0\/j=1:=by omega
 ·have ep:putK [k0,k1] 0 l=[S,k1]:=by unfold putK;rw [hS];rfl
  rw [ep];exact LyR.mk2 (v:=u) (v':=v1) (bN.cell hs) (bN.cell (hs1 (by decide))) (OwnR.rs ou (by omega)) (OwnR.rs o1 (by omega)) hq hm
 ·have ep:putK [k0,k1] 1 l=[k0,S]:=by unfold putK;rw [hS];rfl
  rw [ep];exact LyR.mk2 (v:=v0) (v':=u) (bN.cell (hs0 (by decide))) (bN.cell hs) (OwnR.rs o0 (by omega)) (OwnR.rs ou (by omega)) hq hm
theorem specSessIn_any {s:SS} {sp si sf sd lv:Value} {l:List Rw} {w:World} (i:Int) (h:Ses w sp si sf sd s) (hl:Rs w lv l) :
  Calls Tryz.prog 125 #[sv s.t.k s.t.n sp si sf sd, .int .i64 i,lv] w (InPost s i l w):=by
 obtain ⟨a0,c0,a1,c1,a2,c2,a3,c3,rfl,rfl,rfl,rfl⟩:=h.sl;obtain ⟨al,cl,rfl,-,-,hln,-⟩:=Rs.open hl;have bA:Bk ((w.alloc (.cells (sc s.t.k s.t.n (.slice a0 s.t.len c0) (.slice a1 s.K.length c1) (.slice a2 s.f.length c2) (.slice a3 s.d.length c3)) 30)).alloc (.cells #[.int .i64 0, .int .i64 0, .slice none 0 0, .slice none 0 0, .slice none 0 0, .slice none 0 0] 30)) w.heap.size (sc s.t.k s.t.n (.slice a0 s.t.len c0) (.slice a1 s.K.length c1) (.slice a2 s.f.length c2) (.slice a3 s.d.length c3)) 30:=(Bk.new _ _ rfl).alloc _;have bR:Bk ((w.alloc (.cells (sc s.t.k s.t.n (.slice a0 s.t.len c0) (.slice a1 s.K.length c1) (.slice a2 s.f.length c2) (.slice a3 s.d.length c3)) 30)).alloc (.cells #[.int .i64 0, .int .i64 0, .slice none 0 0, .slice none 0 0, .slice none 0 0, .slice none 0 0] 30)) (w.heap.size+1) #[.int .i64 0, .int .i64 0, .slice none 0 0, .slice none 0 0, .slice none 0 0, .slice none 0 0] 30:=Bk.new _ _ (by simp);have hb0:Below w.heap.size w ((w.alloc (.cells (sc s.t.k s.t.n (.slice a0 s.t.len c0) (.slice a1 s.K.length c1) (.slice a2 s.f.length c2) (.slice a3 s.d.length c3)) 30)).alloc (.cells #[.int .i64 0, .int .i64 0, .slice none 0 0, .slice none 0 0, .slice none 0 0, .slice none 0 0] 30)):=bAz (bAz (Below.refl _ _) _) _;have hS:=h.keep hb0;have hL:=hl.keep hb0;obtain ⟨x0,x1,x2,x3,x4,x5⟩:=bA.six;clear h hl;cases hok:(allS s).isSome
 ·have HN:Hid (inS s i l=none):=inS_no1 (.inl hok);go_enter Tryz.func125,Tryz.ntmps125;go_wp2_with fail;generalize ((w.alloc (.cells (sc s.t.k s.t.n (.slice a0 s.t.len c0) (.slice a1 s.K.length c1) (.slice a2 s.f.length c2) (.slice a3 s.d.length c3)) 30)).alloc (.cells #[.int .i64 0, .int .i64 0, .slice none 0 0, .slice none 0 0, .slice none 0 0, .slice none 0 0] 30))=W0 at *;refine (specSessOk_eq hok hS).mono ?_;rintro e w1 ⟨rfl,hb1⟩;have bR1:=bR.keep hb1;have hbw1:=bSz hb0 hb1;clear x0 x1 x2 x3 x4 x5 bA bR hb0 hb1;have sf0:=bR1.free 0;have sq0:=bR1.set 0 (.int .i64 0);have sf1:=sq0.free 1;have sq1:=sq0.set 1 (.int .i64 0);have sf2:=sq1.free 2;have sq2:=sq1.set 2 (.slice none 0 0);have sf3:=sq2.free 3;have sq3:=sq2.set 3 (.slice none 0 0);have sf4:=sq3.free 4;have sq4:=sq3.set 4 (.slice none 0 0);have sf5:=sq4.free 5;have sq5:=sq4.set 5 (.slice none 0 0);have sN:Bk ((((((w1.setCell ⟨w.heap.size+1,0,none⟩ (.int .i64 0)).setCell ⟨w.heap.size+1,1,none⟩ (.int .i64 0)).setCell ⟨w.heap.size+1,2,none⟩ (.slice none 0 0)).setCell ⟨w.heap.size+1,3,none⟩ (.slice none 0 0)).setCell ⟨w.heap.size+1,4,none⟩ (.slice none 0 0)).setCell ⟨w.heap.size+1,5,none⟩ (.slice none 0 0)) (w.heap.size+1) #[.int .i64 0, .int .i64 0, .slice none 0 0, .slice none 0 0, .slice none 0 0, .slice none 0 0] 30:=sq5;obtain ⟨sy0,sy1,sy2,sy3,sy4,sy5⟩:=bR1.six;obtain ⟨sr0,sr1,sr2,sr3,sr4,sr5⟩:=sN.six;have sset:∀ z,z≠w.heap.size+1->((((((w1.setCell ⟨w.heap.size+1,0,none⟩ (.int .i64 0)).setCell ⟨w.heap.size+1,1,none⟩ (.int .i64 0)).setCell ⟨w.heap.size+1,2,none⟩ (.slice none 0 0)).setCell ⟨w.heap.size+1,3,none⟩ (.slice none 0 0)).setCell ⟨w.heap.size+1,4,none⟩ (.slice none 0 0)).setCell ⟨w.heap.size+1,5,none⟩ (.slice none 0 0)).heap[z]?=w1.heap[z]?:=fun z hz=>(((((Below.heap_setCell _ _ _ _ hz).trans (Below.heap_setCell _ _ _ _ hz)).trans (Below.heap_setCell _ _ _ _ hz)).trans (Below.heap_setCell _ _ _ _ hz)).trans (Below.heap_setCell _ _ _ _ hz)).trans (Below.heap_setCell _ _ _ _ hz);clear sq0 sq1 sq2 sq3 sq4 sq5;have HBF:Hid (Below w.heap.size w ((((((w1.setCell ⟨w.heap.size+1,0,none⟩ (.int .i64 0)).setCell ⟨w.heap.size+1,1,none⟩ (.int .i64 0)).setCell ⟨w.heap.size+1,2,none⟩ (.slice none 0 0)).setCell ⟨w.heap.size+1,3,none⟩ (.slice none 0 0)).setCell ⟨w.heap.size+1,4,none⟩ (.slice none 0 0)).setCell ⟨w.heap.size+1,5,none⟩ (.slice none 0 0))):=((((((hbw1.setCell (by simp) _).setCell (by simp) _).setCell (by simp) _).setCell (by simp) _).setCell (by simp) _).setCell (by simp) _);clear sset sN;go_wp2_with fail;refine bodyPost_ret (v:= .tuple #[sv 0 0 nilV nilV nilV nilV, .bool false]) (by simp [results,Tryz.results125,go_sem,sr0,sr1,sr2,sr3,sr4,sr5];try rfl) rfl ?_;exact .inr ⟨HN.out,_,_,_,_,rfl,fun V _=>zero_ses V,HBF.out⟩
 cases hi:inB i 0 1
 ·have HN:Hid (inS s i l=none):=inS_no1 (.inr (.inl hi));go_enter Tryz.func125,Tryz.ntmps125;go_wp2_with fail;generalize ((w.alloc (.cells (sc s.t.k s.t.n (.slice a0 s.t.len c0) (.slice a1 s.K.length c1) (.slice a2 s.f.length c2) (.slice a3 s.d.length c3)) 30)).alloc (.cells #[.int .i64 0, .int .i64 0, .slice none 0 0, .slice none 0 0, .slice none 0 0, .slice none 0 0] 30))=W0 at *;refine (specSessOk_eq hok hS).mono ?_;rintro e w1 ⟨rfl,hb1⟩;have bR1:=bR.keep hb1;have hbw1:=bSz hb0 hb1;clear x0 x1 x2 x3 x4 x5 bA bR hb0 hb1;go_wp2_with fail;refine (l6In_eq hi _).mono ?_;rintro e w1' ⟨rfl,rfl⟩;clear hi hok hS hL;have sf0:=bR1.free 0;have sq0:=bR1.set 0 (.int .i64 0);have sf1:=sq0.free 1;have sq1:=sq0.set 1 (.int .i64 0);have sf2:=sq1.free 2;have sq2:=sq1.set 2 (.slice none 0 0);have sf3:=sq2.free 3;have sq3:=sq2.set 3 (.slice none 0 0);have sf4:=sq3.free 4;have sq4:=sq3.set 4 (.slice none 0 0);have sf5:=sq4.free 5;have sq5:=sq4.set 5 (.slice none 0 0);have sN:Bk ((((((w1'.setCell ⟨w.heap.size+1,0,none⟩ (.int .i64 0)).setCell ⟨w.heap.size+1,1,none⟩ (.int .i64 0)).setCell ⟨w.heap.size+1,2,none⟩ (.slice none 0 0)).setCell ⟨w.heap.size+1,3,none⟩ (.slice none 0 0)).setCell ⟨w.heap.size+1,4,none⟩ (.slice none 0 0)).setCell ⟨w.heap.size+1,5,none⟩ (.slice none 0 0)) (w.heap.size+1) #[.int .i64 0, .int .i64 0, .slice none 0 0, .slice none 0 0, .slice none 0 0, .slice none 0 0] 30:=sq5;obtain ⟨sy0,sy1,sy2,sy3,sy4,sy5⟩:=bR1.six;obtain ⟨sr0,sr1,sr2,sr3,sr4,sr5⟩:=sN.six;have sset:∀ z,z≠w.heap.size+1->((((((w1'.setCell ⟨w.heap.size+1,0,none⟩ (.int .i64 0)).setCell ⟨w.heap.size+1,1,none⟩ (.int .i64 0)).setCell ⟨w.heap.size+1,2,none⟩ (.slice none 0 0)).setCell ⟨w.heap.size+1,3,none⟩ (.slice none 0 0)).setCell ⟨w.heap.size+1,4,none⟩ (.slice none 0 0)).setCell ⟨w.heap.size+1,5,none⟩ (.slice none 0 0)).heap[z]?=w1'.heap[z]?:=fun z hz=>(((((Below.heap_setCell _ _ _ _ hz).trans (Below.heap_setCell _ _ _ _ hz)).trans (Below.heap_setCell _ _ _ _ hz)).trans (Below.heap_setCell _ _ _ _ hz)).trans (Below.heap_setCell _ _ _ _ hz)).trans (Below.heap_setCell _ _ _ _ hz);clear sq0 sq1 sq2 sq3 sq4 sq5;have HBF:Hid (Below w.heap.size w ((((((w1'.setCell ⟨w.heap.size+1,0,none⟩ (.int .i64 0)).setCell ⟨w.heap.size+1,1,none⟩ (.int .i64 0)).setCell ⟨w.heap.size+1,2,none⟩ (.slice none 0 0)).setCell ⟨w.heap.size+1,3,none⟩ (.slice none 0 0)).setCell ⟨w.heap.size+1,4,none⟩ (.slice none 0 0)).setCell ⟨w.heap.size+1,5,none⟩ (.slice none 0 0))):=((((((hbw1.setCell (by simp) _).setCell (by simp) _).setCell (by simp) _).setCell (by simp) _).setCell (by simp) _).setCell (by simp) _);clear sset sN;go_wp2_with fail;refine bodyPost_ret (v:= .tuple #[sv 0 0 nilV nilV nilV nilV, .bool false]) (by simp [results,Tryz.results125,go_sem,sr0,sr1,sr2,sr3,sr4,sr5];try rfl) rfl ?_;exact .inr ⟨HN.out,_,_,_,_,rfl,fun V _=>zero_ses V,HBF.out⟩
 cases hk:bokB l
 ·have HN:Hid (inS s i l=none):=inS_no1 (.inr (.inr (.inl hk)));go_enter Tryz.func125,Tryz.ntmps125;go_wp2_with fail;generalize ((w.alloc (.cells (sc s.t.k s.t.n (.slice a0 s.t.len c0) (.slice a1 s.K.length c1) (.slice a2 s.f.length c2) (.slice a3 s.d.length c3)) 30)).alloc (.cells #[.int .i64 0, .int .i64 0, .slice none 0 0, .slice none 0 0, .slice none 0 0, .slice none 0 0] 30))=W0 at *;refine (specSessOk_eq hok hS).mono ?_;rintro e w0 ⟨rfl,hb1⟩;have bR0:=bR.keep hb1;have hbw0:=bSz hb0 hb1;have hL0:=hL.keep hb1;clear x0 x1 x2 x3 x4 x5 bA bR hb0 hb1;go_wp2_with fail;refine (l6In_eq hi _).mono ?_;rintro e w1' ⟨rfl,rfl⟩;go_wp2_with fail;refine (specBatchOk_eq hk hL0).mono ?_;rintro e w1 ⟨rfl,hb2⟩;have bR1:=bR0.keep hb2;have hbw1:=bSz hbw0 hb2;clear bR0 hbw0 hb2;have sf0:=bR1.free 0;have sq0:=bR1.set 0 (.int .i64 0);have sf1:=sq0.free 1;have sq1:=sq0.set 1 (.int .i64 0);have sf2:=sq1.free 2;have sq2:=sq1.set 2 (.slice none 0 0);have sf3:=sq2.free 3;have sq3:=sq2.set 3 (.slice none 0 0);have sf4:=sq3.free 4;have sq4:=sq3.set 4 (.slice none 0 0);have sf5:=sq4.free 5;have sq5:=sq4.set 5 (.slice none 0 0);have sN:Bk ((((((w1.setCell ⟨w.heap.size+1,0,none⟩ (.int .i64 0)).setCell ⟨w.heap.size+1,1,none⟩ (.int .i64 0)).setCell ⟨w.heap.size+1,2,none⟩ (.slice none 0 0)).setCell ⟨w.heap.size+1,3,none⟩ (.slice none 0 0)).setCell ⟨w.heap.size+1,4,none⟩ (.slice none 0 0)).setCell ⟨w.heap.size+1,5,none⟩ (.slice none 0 0)) (w.heap.size+1) #[.int .i64 0, .int .i64 0, .slice none 0 0, .slice none 0 0, .slice none 0 0, .slice none 0 0] 30:=sq5;obtain ⟨sy0,sy1,sy2,sy3,sy4,sy5⟩:=bR1.six;obtain ⟨sr0,sr1,sr2,sr3,sr4,sr5⟩:=sN.six;have sset:∀ z,z≠w.heap.size+1->((((((w1.setCell ⟨w.heap.size+1,0,none⟩ (.int .i64 0)).setCell ⟨w.heap.size+1,1,none⟩ (.int .i64 0)).setCell ⟨w.heap.size+1,2,none⟩ (.slice none 0 0)).setCell ⟨w.heap.size+1,3,none⟩ (.slice none 0 0)).setCell ⟨w.heap.size+1,4,none⟩ (.slice none 0 0)).setCell ⟨w.heap.size+1,5,none⟩ (.slice none 0 0)).heap[z]?=w1.heap[z]?:=fun z hz=>(((((Below.heap_setCell _ _ _ _ hz).trans (Below.heap_setCell _ _ _ _ hz)).trans (Below.heap_setCell _ _ _ _ hz)).trans (Below.heap_setCell _ _ _ _ hz)).trans (Below.heap_setCell _ _ _ _ hz)).trans (Below.heap_setCell _ _ _ _ hz);clear sq0 sq1 sq2 sq3 sq4 sq5;have HBF:Hid (Below w.heap.size w ((((((w1.setCell ⟨w.heap.size+1,0,none⟩ (.int .i64 0)).setCell ⟨w.heap.size+1,1,none⟩ (.int .i64 0)).setCell ⟨w.heap.size+1,2,none⟩ (.slice none 0 0)).setCell ⟨w.heap.size+1,3,none⟩ (.slice none 0 0)).setCell ⟨w.heap.size+1,4,none⟩ (.slice none 0 0)).setCell ⟨w.heap.size+1,5,none⟩ (.slice none 0 0))):=((((((hbw1.setCell (by simp) _).setCell (by simp) _).setCell (by simp) _).setCell (by simp) _).setCell (by simp) _).setCell (by simp) _);clear sset sN;go_wp2_with fail;refine bodyPost_ret (v:= .tuple #[sv 0 0 nilV nilV nilV nilV, .bool false]) (by simp [results,Tryz.results125,go_sem,sr0,sr1,sr2,sr3,sr4,sr5];try rfl) rfl ?_;exact .inr ⟨HN.out,_,_,_,_,rfl,fun V _=>zero_ses V,HBF.out⟩
 have hll:=rLz (bRz hk);have hal:=ahead_len s.f l;go_enter Tryz.func125,Tryz.ntmps125;go_wp2_with fail;generalize ((w.alloc (.cells (sc s.t.k s.t.n (.slice a0 s.t.len c0) (.slice a1 s.K.length c1) (.slice a2 s.f.length c2) (.slice a3 s.d.length c3)) 30)).alloc (.cells #[.int .i64 0, .int .i64 0, .slice none 0 0, .slice none 0 0, .slice none 0 0, .slice none 0 0] 30))=W0 at *;refine (specSessOk_eq hok hS).mono ?_;rintro e w0 ⟨rfl,hb1⟩;have bR0:=bR.keep hb1;have bA0:=bA.keep hb1;have hbw0:=bSz hb0 hb1;have hL0:=hL.keep hb1;have hS0:=hS.keep hb1;clear x0 x1 x2 x3 x4 x5 bA bR hb0 hb1 hS hL;go_wp2_with fail;refine (l6In_eq hi _).mono ?_;rintro e w1' ⟨rfl,rfl⟩;go_wp2_with fail;refine (specBatchOk_eq hk hL0).mono ?_;rintro e w1 ⟨rfl,hb2⟩;have bR1:=bR0.keep hb2;have bA1:=bA0.keep hb2;have hbw1:=bSz hbw0 hb2;have hL1:=hL0.keep hb2;have hS1:=hS0.keep hb2;clear bR0 bA0 hbw0 hb2 hL0 hS0;obtain ⟨x0,x1,x2,x3,x4,x5⟩:=bA1.six;go_wp2_with fail;refine (l31Ahead_any _ _ s.f l _ hL1 hS1.ts (by omega)).mono ?_;rintro e w2 ⟨o2,rfl,own2,hb2⟩;have bR2:=bR1.keep hb2;have bA2:=bA1.keep hb2;have hbw2:=bSz hbw1 hb2;have hL2:=hL1.keep hb2;have hS2:=hS1.keep hb2;obtain ⟨ao,co,rfl,-⟩:=Rs.open (OwnR.rs own2 (by omega));clear bR1 bA1 hbw1 hb2 hL1 hS1 own2 x0 x1 x2 x3 x4 x5
 by_cases hz:aheadL s.f l=[]
 case neg =>
  have HN:Hid (inS s i l=none):=inS_no1 (.inr (.inr (.inr hz)));have hpos:0<(aheadL s.f l).length:=List.length_pos_iff.2 hz;have ipos:(0:Int)<((aheadL s.f l).length:Int):=by omega
  have sf0:=bR2.free 0;have sq0:=bR2.set 0 (.int .i64 0);have sf1:=sq0.free 1;have sq1:=sq0.set 1 (.int .i64 0);have sf2:=sq1.free 2;have sq2:=sq1.set 2 (.slice none 0 0);have sf3:=sq2.free 3;have sq3:=sq2.set 3 (.slice none 0 0);have sf4:=sq3.free 4;have sq4:=sq3.set 4 (.slice none 0 0);have sf5:=sq4.free 5;have sq5:=sq4.set 5 (.slice none 0 0);have sN:Bk ((((((w2.setCell ⟨w.heap.size+1,0,none⟩ (.int .i64 0)).setCell ⟨w.heap.size+1,1,none⟩ (.int .i64 0)).setCell ⟨w.heap.size+1,2,none⟩ (.slice none 0 0)).setCell ⟨w.heap.size+1,3,none⟩ (.slice none 0 0)).setCell ⟨w.heap.size+1,4,none⟩ (.slice none 0 0)).setCell ⟨w.heap.size+1,5,none⟩ (.slice none 0 0)) (w.heap.size+1) #[.int .i64 0, .int .i64 0, .slice none 0 0, .slice none 0 0, .slice none 0 0, .slice none 0 0] 30:=sq5;obtain ⟨sy0,sy1,sy2,sy3,sy4,sy5⟩:=bR2.six;obtain ⟨sr0,sr1,sr2,sr3,sr4,sr5⟩:=sN.six;have sset:∀ z,z≠w.heap.size+1->((((((w2.setCell ⟨w.heap.size+1,0,none⟩ (.int .i64 0)).setCell ⟨w.heap.size+1,1,none⟩ (.int .i64 0)).setCell ⟨w.heap.size+1,2,none⟩ (.slice none 0 0)).setCell ⟨w.heap.size+1,3,none⟩ (.slice none 0 0)).setCell ⟨w.heap.size+1,4,none⟩ (.slice none 0 0)).setCell ⟨w.heap.size+1,5,none⟩ (.slice none 0 0)).heap[z]?=w2.heap[z]?:=fun z hz=>(((((Below.heap_setCell _ _ _ _ hz).trans (Below.heap_setCell _ _ _ _ hz)).trans (Below.heap_setCell _ _ _ _ hz)).trans (Below.heap_setCell _ _ _ _ hz)).trans (Below.heap_setCell _ _ _ _ hz)).trans (Below.heap_setCell _ _ _ _ hz);clear sq0 sq1 sq2 sq3 sq4 sq5;have HBF:Hid (Below w.heap.size w ((((((w2.setCell ⟨w.heap.size+1,0,none⟩ (.int .i64 0)).setCell ⟨w.heap.size+1,1,none⟩ (.int .i64 0)).setCell ⟨w.heap.size+1,2,none⟩ (.slice none 0 0)).setCell ⟨w.heap.size+1,3,none⟩ (.slice none 0 0)).setCell ⟨w.heap.size+1,4,none⟩ (.slice none 0 0)).setCell ⟨w.heap.size+1,5,none⟩ (.slice none 0 0))):=((((((hbw2.setCell (by simp) _).setCell (by simp) _).setCell (by simp) _).setCell (by simp) _).setCell (by simp) _).setCell (by simp) _);clear sset sN;go_wp2_with fail;refine bodyPost_ret (v:= .tuple #[sv 0 0 nilV nilV nilV nilV, .bool false]) (by simp [results,Tryz.results125,go_sem,sr0,sr1,sr2,sr3,sr4,sr5];try rfl) rfl ?_;exact .inr ⟨HN.out,_,_,_,_,rfl,fun V _=>zero_ses V,HBF.out⟩
 have HIN:=(show Hid _ from inS_of hok hi hk hz);rw [hz];obtain ⟨r,hr⟩:=Option.isSome_iff_exists.1 hok;have hfew:=allS_few hr;have HK2:Hid (s.K.length=2):=by
  show _=_
  obtain ⟨_,h2,_⟩:=allS_some.1 hr;obtain ⟨a,b,e,_⟩:=flowR_some h2;rw [e];rfl
 have HKB:Hid (∀ l∈s.K,bokB l=true):=by
  obtain ⟨_,h2,_⟩:=allS_some.1 hr;obtain ⟨a,b,e,_,ha,hb,_⟩:=flowR_some h2;intro l hl;rw [e] at hl;simp only [List.mem_cons,List.not_mem_nil,or_false] at hl
  rcases hl with rfl|rfl<;>assumption
 obtain ⟨x0,x1,x2,x3,x4,x5⟩:=bA2.six;go_wp2_with fail;refine (l31Copy_any hS2 hfew).mono ?_;rintro e w3 ⟨sp',si',sf',sd',rfl,sO,hb3⟩;have bR3:=bR2.keep hb3;have hbw3:=bSz hbw2 hb3;have hL3:=hL2.keep hb3;have hz3:w.heap.size+2<=w3.heap.size:=by have:=bR3.lt;omega
 have hB3:=bR2.lt;have hz23:=hb3.size;obtain ⟨p0,q0,p1,q1,p2,q2,p3,q3,rfl,rfl,rfl,rfl⟩:=(sO.ses hfew).sl;obtain ⟨j,rfl⟩:∃ j:Nat,i=(j:Int):=⟨i.toNat,by simp [inB] at hi;omega⟩;have hj:j<s.K.length:=by have:=HK2.out;simp [inB] at hi;omega
 have ij:((j:Int)<(s.K.length:Int)):=by omega
 obtain ⟨vs,ov,eo⟩:=sO.ly;have HVL:Hid (vs.length=2):=by show _=_;rw [eo.1,HK2.out]
 obtain ⟨gI,ccI,hgI,hcI,hmI,bI,hcells⟩:∃ (gI:Nat) (cc:Array Value),p1=some ⟨gI,0,none⟩/\2<=q1/\q1<=maxLen/\Bk w3 gI cc 28/\∀ (k:Nat) (u:Value),vs[k]?=some u->cc[k]?=some u:=by
  rcases ownK_open ov oneR_len with ⟨h1,h2⟩|⟨g,cap,cc,e,_,hb,_,h5,h6,hf⟩
  ·have hvl:=HVL.out;rw [h2] at hvl;simp at hvl
  ·obtain ⟨rfl,-,rfl⟩:=Value.slice.inj e;refine ⟨g,cc,rfl,by have:=HVL.out;have:=HK2.out;omega,h6,hb,fun k u hu=>?_⟩;have hk':k<vs.length:=(List.getElem?_eq_some_iff.1 hu).1
   simpa using hf k u hk' hu 0 (by omega)
 subst hgI;obtain ⟨kj,hkj⟩:∃ l,s.K[j]?=some l:=⟨_,List.getElem?_eq_getElem hj⟩;obtain ⟨uj,huj⟩:∃ u,vs[j]?=some u:=⟨_,List.getElem?_eq_getElem (by have:=HVL.out;have:=HK2.out;omega)⟩;have oj:=eo.2.1 j uj kj huj hkj;have hkjl:kj.length<=1000:=hfew.2.1 kj (List.mem_of_getElem? hkj);have hkjb:bokB kj=true:=HKB.out kj (List.mem_of_getElem? hkj);have Rj:Rs w3 uj kj:=OwnR.rs oj (by omega);obtain ⟨aj,cj,rfl,-⟩:=Rs.open Rj;have hgd:s.K.getD j []=kj:=by rw [List.getD_eq_getElem?_getD,hkj];rfl
 have cI:=bI.cell (hcells j _ huj);have hgIl:=bI.lt;have hgIb:w2.heap.size<=gI:=oB ov gI rfl;have HSO:Hid (SesO w3 w2.heap.size (.slice p0 s.t.len q0) (.slice (some ⟨gI,0,none⟩) s.K.length q1) (.slice p2 s.f.length q2) (.slice p3 s.d.length q3) s):=sO;have HEO:Hid (EoR w3 w2.heap.size vs s.K):=eo;have b8:Bk ((w3.alloc (.cells (sc s.t.k s.t.n (.slice p0 s.t.len q0) (.slice (some ⟨gI,0,none⟩) s.K.length q1) (.slice p2 s.f.length q2) (.slice p3 s.d.length q3)) 30)).alloc (.cells #[] 55)) w3.heap.size (sc s.t.k s.t.n (.slice p0 s.t.len q0) (.slice (some ⟨gI,0,none⟩) s.K.length q1) (.slice p2 s.f.length q2) (.slice p3 s.d.length q3)) 30:=(Bk.new _ _ rfl).alloc _;have hb5:Below w3.heap.size w3 ((w3.alloc (.cells (sc s.t.k s.t.n (.slice p0 s.t.len q0) (.slice (some ⟨gI,0,none⟩) s.K.length q1) (.slice p2 s.f.length q2) (.slice p3 s.d.length q3)) 30)).alloc (.cells #[] 55)):=bAz (bAz (Below.refl _ _) _) _;have OE:OwnR ((w3.alloc (.cells (sc s.t.k s.t.n (.slice p0 s.t.len q0) (.slice (some ⟨gI,0,none⟩) s.K.length q1) (.slice p2 s.f.length q2) (.slice p3 s.d.length q3)) 30)).alloc (.cells #[] 55)) (w3.heap.size+1) (.slice (some ⟨w3.heap.size+1,0,none⟩) 0 0) []:=oEz (w3.alloc (.cells (sc s.t.k s.t.n (.slice p0 s.t.len q0) (.slice (some ⟨gI,0,none⟩) s.K.length q1) (.slice p2 s.f.length q2) (.slice p3 s.d.length q3)) 30)) (by simp);have R5:Rs ((w3.alloc (.cells (sc s.t.k s.t.n (.slice p0 s.t.len q0) (.slice (some ⟨gI,0,none⟩) s.K.length q1) (.slice p2 s.f.length q2) (.slice p3 s.d.length q3)) 30)).alloc (.cells #[] 55)) (.slice aj kj.length cj) kj:=Rj.keep hb5;have c5:=cB hb5 cI;obtain ⟨y0,y1,y2,y3,y4,y5⟩:=b8.six;have zE:w3.heap.size+1<=((w3.alloc (.cells (sc s.t.k s.t.n (.slice p0 s.t.len q0) (.slice (some ⟨gI,0,none⟩) s.K.length q1) (.slice p2 s.f.length q2) (.slice p3 s.d.length q3)) 30)).alloc (.cells #[] 55)).heap.size:=by simp
 have zF:w3.heap.size<=((w3.alloc (.cells (sc s.t.k s.t.n (.slice p0 s.t.len q0) (.slice (some ⟨gI,0,none⟩) s.K.length q1) (.slice p2 s.f.length q2) (.slice p3 s.d.length q3)) 30)).alloc (.cells #[] 55)).heap.size:=by omega
 have HB8:Hid (Bk ((w3.alloc (.cells (sc s.t.k s.t.n (.slice p0 s.t.len q0) (.slice (some ⟨gI,0,none⟩) s.K.length q1) (.slice p2 s.f.length q2) (.slice p3 s.d.length q3)) 30)).alloc (.cells #[] 55)) w3.heap.size (sc s.t.k s.t.n (.slice p0 s.t.len q0) (.slice (some ⟨gI,0,none⟩) s.K.length q1) (.slice p2 s.f.length q2) (.slice p3 s.d.length q3)) 30):=b8;have HL3:Hid (Rs w3 (.slice al l.length cl) l):=hL3;have HBI:Hid (Bk w3 gI ccI 28):=bI;have HHC:Hid (∀ (k:Nat) (u:Value),vs[k]?=some u->ccI[k]?=some u):=hcells;clear x0 x1 x2 x3 x4 x5 hS2 bA2 bR2 hbw2 hL2 hb3 sO ov eo oj Rj cI bI hcells hL3 b8 hz hok
 go_wp2_with (at_builtin;first
  | (refine appRs _ rfl _ _ rfl (w3.heap.size+1) (.slice (some ⟨w3.heap.size+1,0,none⟩) 0 0) [] rfl OE _ kj rfl R5 (by simp;omega) zE ?_;intro v6 w6 own6 hg6;have hb6:Below w3.heap.size w3 w6:=Below.grew hb5 hg6 zF (fun z e=>by have:=own_q e;omega);have own6':OwnR w6 (w3.heap.size+1) v6 kj:=own6;have R6:=HL3.out.keep hb6;have hz6:w3.heap.size+1<=w6.heap.size:=Nat.le_trans zE hg6.size)
  | (refine appRs _ rfl _ _ rfl (w3.heap.size+1) v6 kj rfl own6' _ l rfl R6 (by omega) hz6 ?_;intro v7 w7 own7 hg7;have hb7:Below w3.heap.size w3 w7:=Below.grew hb6 hg7 (by omega) (fun z e=>by have:=oB own6' z e;omega);have R7:=OwnR.rs own7 (by simp;omega)))
 refine (l2Sum_any _ (kj++l) _ R7 (by simp;omega) (by rw [absum_append];have:=rok_abs (bRz hkjb);have:=rok_abs (bRz hk);omega)).mono ?_;rintro e w8 ⟨o8,rfl,own8,hb8⟩;have hsl:=sumL_len ltS (kj++l);have hsl2:(sumL ltS (kj++l)).length<=2000:=by simp at hsl;omega
 obtain ⟨a8,c8,rfl,-⟩:=Rs.open (OwnR.rs own8 (by omega));have hb38:Below w3.heap.size w3 w8:=bSz hb7 hb8;have bB8:Bk w8 w3.heap.size (sc s.t.k s.t.n (.slice p0 s.t.len q0) (.slice (some ⟨gI,0,none⟩) s.K.length q1) (.slice p2 s.f.length q2) (.slice p3 s.d.length q3)) 30:=by
  have e6:Bk w6 w3.heap.size (sc s.t.k s.t.n (.slice p0 s.t.len q0) (.slice (some ⟨gI,0,none⟩) s.K.length q1) (.slice p2 s.f.length q2) (.slice p3 s.d.length q3)) 30:=HB8.out.grew hg6 (fun z e=>by have:=own_q e;omega);exact (e6.grew hg7 (fun z e=>by have:=oB own6' z e;omega)).keep hb8
 have R8:Rs w8 (.slice a8 (sumL ltS (kj++l)).length c8) (sumL ltS (kj++l)):=OwnR.rs own8 (by omega);have bR8:=bR3.keep hb38;have hbw8:=bSz hbw3 hb38;have HOWN:Hid (OwnR w8 w7.heap.size (.slice a8 (sumL ltS (kj++l)).length c8) (sumL ltS (kj++l))):=own8;have HZ7:Hid (w3.heap.size<=w7.heap.size):=hb7.size;have HZ2:Hid (w2.heap.size<=w3.heap.size):=hz23;clear OE R5 c5 y0 y1 y2 y3 y4 y5 zE zF hb5 HB8 hg6 hg7 own6 own6' own7 R6 R7 hb6 hb7 hb8 own8 bR3 hbw3 hz6;generalize hSUM:sumL ltS (kj++l)=S at *;cases hkS:bokB S
 ·have HN:Hid (inS s (j:Int) l=none):=by
   show _=_
   rw [HIN.out];rw [if_neg];intro h';have:=putK_bok (by simpa using hj) h';simp only [Int.toNat_natCast,hgd,hSUM,hkS] at this;cases this
  go_wp2_with fail;refine (specBatchOk_eq hkS R8).mono ?_;rintro e w9 ⟨rfl,hb9⟩;have bR9:=bR8.keep hb9;have hbw9:=bSz hbw8 hb9;clear bR8 hbw8 hb9 bB8;have sf0:=bR9.free 0;have sq0:=bR9.set 0 (.int .i64 0);have sf1:=sq0.free 1;have sq1:=sq0.set 1 (.int .i64 0);have sf2:=sq1.free 2;have sq2:=sq1.set 2 (.slice none 0 0);have sf3:=sq2.free 3;have sq3:=sq2.set 3 (.slice none 0 0);have sf4:=sq3.free 4;have sq4:=sq3.set 4 (.slice none 0 0);have sf5:=sq4.free 5;have sq5:=sq4.set 5 (.slice none 0 0);have sN:Bk ((((((w9.setCell ⟨w.heap.size+1,0,none⟩ (.int .i64 0)).setCell ⟨w.heap.size+1,1,none⟩ (.int .i64 0)).setCell ⟨w.heap.size+1,2,none⟩ (.slice none 0 0)).setCell ⟨w.heap.size+1,3,none⟩ (.slice none 0 0)).setCell ⟨w.heap.size+1,4,none⟩ (.slice none 0 0)).setCell ⟨w.heap.size+1,5,none⟩ (.slice none 0 0)) (w.heap.size+1) #[.int .i64 0, .int .i64 0, .slice none 0 0, .slice none 0 0, .slice none 0 0, .slice none 0 0] 30:=sq5;obtain ⟨sy0,sy1,sy2,sy3,sy4,sy5⟩:=bR9.six;obtain ⟨sr0,sr1,sr2,sr3,sr4,sr5⟩:=sN.six;have sset:∀ z,z≠w.heap.size+1->((((((w9.setCell ⟨w.heap.size+1,0,none⟩ (.int .i64 0)).setCell ⟨w.heap.size+1,1,none⟩ (.int .i64 0)).setCell ⟨w.heap.size+1,2,none⟩ (.slice none 0 0)).setCell ⟨w.heap.size+1,3,none⟩ (.slice none 0 0)).setCell ⟨w.heap.size+1,4,none⟩ (.slice none 0 0)).setCell ⟨w.heap.size+1,5,none⟩ (.slice none 0 0)).heap[z]?=w9.heap[z]?:=fun z hz=>(((((Below.heap_setCell _ _ _ _ hz).trans (Below.heap_setCell _ _ _ _ hz)).trans (Below.heap_setCell _ _ _ _ hz)).trans (Below.heap_setCell _ _ _ _ hz)).trans (Below.heap_setCell _ _ _ _ hz)).trans (Below.heap_setCell _ _ _ _ hz);clear sq0 sq1 sq2 sq3 sq4 sq5;have HBF:Hid (Below w.heap.size w ((((((w9.setCell ⟨w.heap.size+1,0,none⟩ (.int .i64 0)).setCell ⟨w.heap.size+1,1,none⟩ (.int .i64 0)).setCell ⟨w.heap.size+1,2,none⟩ (.slice none 0 0)).setCell ⟨w.heap.size+1,3,none⟩ (.slice none 0 0)).setCell ⟨w.heap.size+1,4,none⟩ (.slice none 0 0)).setCell ⟨w.heap.size+1,5,none⟩ (.slice none 0 0))):=((((((hbw9.setCell (by simp) _).setCell (by simp) _).setCell (by simp) _).setCell (by simp) _).setCell (by simp) _).setCell (by simp) _);clear sset sN;go_wp2_with fail;refine bodyPost_ret (v:= .tuple #[sv 0 0 nilV nilV nilV nilV, .bool false]) (by simp [results,Tryz.results125,go_sem,sr0,sr1,sr2,sr3,sr4,sr5];try rfl) rfl ?_;exact .inr ⟨HN.out,_,_,_,_,rfl,fun V _=>zero_ses V,HBF.out⟩
 ·go_wp2_with fail;refine (specBatchOk_eq hkS R8).mono ?_;rintro e w9 ⟨rfl,hb9⟩;have bR9:=bR8.keep hb9;have hbw9:=bSz hbw8 hb9;have bB9:=bB8.keep hb9;have hb39:Below w3.heap.size w3 w9:=bSz hb38 hb9;have bI9:=HBI.out.keep hb39;have own9:OwnR w9 w7.heap.size (.slice a8 S.length c8) S:=oKz HOWN.out hb9;obtain ⟨y0,y1,y2,y3,y4,y5⟩:=bB9.six;have fI:=bI9.free j;have bI9l:=bI9.lt;have hset:∀ z,z≠gI->(w9.setCell ⟨gI,j,none⟩ (.slice a8 S.length c8)).heap[z]?=w9.heap[z]?:=fun z hz=>Below.heap_setCell _ _ _ _ hz;have hne:∀ {z:Nat} {c:Array Value} {T:TypeId},Bk w9 z c T->T≠28->z≠gI:=fun h1 h2=>bK h1 bI9 h2;have HSV:Hid (∀ V:World,V.heap[gI]?=(w9.setCell ⟨gI,j,none⟩ (.slice a8 S.length c8)).heap[gI]?->(∀ z,w2.heap.size<=z->z≠gI->z<w9.heap.size->V.heap[z]?=w9.heap[z]?)->Ses V (.slice p0 s.t.len q0) (.slice (some ⟨gI,0,none⟩) s.K.length q1) (.slice p2 s.f.length q2) (.slice p3 s.d.length q3) ⟨s.t,putK s.K j l,s.f,s.d⟩):=by
   intro V hV hv;have ot9:Own w9 w2.heap.size (.slice p2 s.f.length q2) s.f:=oKz HSO.out.ts hb39;have or9:OwnR w9 w2.heap.size (.slice p3 s.d.length q3) s.d:=oKz HSO.out.rs hb39;refine ⟨((HSO.out.kd.keep hb39).move (q:=fun _=>True) fun g hg hl=>⟨trivial,hv g hg.1 (fun e=>hg.2 (by rw [e];rfl)) hl⟩).kd fun g _=>Nat.zero_le _,ly_put HK2.out (by have:=HK2.out;omega) hcI hmI bI9 HHC.out (HEO.out.keep hb39) own9 (by have:=HZ7.out;have:=HZ2.out;omega) hsl2 (by rw [hgd];exact hSUM) hV hv,Own.ts (oAz ot9 fun z e=>hv z (oB ot9 z e) ?_ (oT ot9 z e)) (by have:=hfew.2.2.1;show s.f.length<=2097152;omega),OwnR.rs (own_beside bI9 or9 (Nat.le_refl _) hv) (by have:=hfew.2.2.2;show s.d.length<=2097152;omega)⟩;obtain ⟨d,hd⟩:=time_blk ot9 e;exact hne hd (by decide)
  have HSET:Hid (∀ z,z≠gI->(w9.setCell ⟨gI,j,none⟩ (.slice a8 S.length c8)).heap[z]?=w9.heap[z]?):=hset;have HZW:Hid ((w9.setCell ⟨gI,j,none⟩ (.slice a8 S.length c8)).heap.size=w9.heap.size):=by show _=_;simp
  have bB10:Bk (w9.setCell ⟨gI,j,none⟩ (.slice a8 S.length c8)) w3.heap.size (sc s.t.k s.t.n (.slice p0 s.t.len q0) (.slice (some ⟨gI,0,none⟩) s.K.length q1) (.slice p2 s.f.length q2) (.slice p3 s.d.length q3)) 30:=by unfold Bk;rw [hset _ (hne bB9 (by decide))];exact bB9
  have bR10:Bk (w9.setCell ⟨gI,j,none⟩ (.slice a8 S.length c8)) (w.heap.size+1) #[.int .i64 0, .int .i64 0, .slice none 0 0, .slice none 0 0, .slice none 0 0, .slice none 0 0] 30:=by unfold Bk;rw [hset _ (hne bR9 (by decide))];exact bR9
  have hbw10:Below w.heap.size w (w9.setCell ⟨gI,j,none⟩ (.slice a8 S.length c8)):=hbw9.setCell (by show _<=gI;omega) _;obtain ⟨t0,t1,t2,t3,t4,t5⟩:=bB10.six;have cI9:∃ v,w9.cell? ⟨gI,j,none⟩=some v:=⟨_,bI9.cell (HHC.out j _ huj)⟩;obtain ⟨vI,cI9⟩:=cI9;have HS10:Hid (Ses (w9.setCell ⟨gI,j,none⟩ (.slice a8 S.length c8)) (.slice p0 s.t.len q0) (.slice (some ⟨gI,0,none⟩) s.K.length q1) (.slice p2 s.f.length q2) (.slice p3 s.d.length q3) ⟨s.t,putK s.K j l,s.f,s.d⟩):=HSV.out _ rfl fun z _ h2 _=>hset z h2;have HI2:Hid (inS s (j:Int) l=if (allS ⟨s.t,putK s.K j l,s.f,s.d⟩).isSome then some ⟨s.t,putK s.K j l,s.f,s.d⟩ else none):=by
   have:=HIN.out
   show _=_
   simpa using this
  clear hset hne bB9 bR9 hbw9 bI9 own9 hb39 hb9 bB8 bR8 hbw8 R8 HIN;cases hal2:(allS ⟨s.t,putK s.K j l,s.f,s.d⟩).isSome
  ·have HN:Hid (inS s (j:Int) l=none):=by show _=_;rw [HI2.out,hal2];rfl
   go_wp2_with fail;clear t0 t1 t2 t3 t4 t5 y0 y1 y2 y3 y4 y5 fI cI9;generalize (w9.setCell ⟨gI,j,none⟩ (.slice a8 S.length c8))=W10 at *;refine (specSessOk_eq hal2 HS10.out).mono ?_;rintro e w11 ⟨rfl,hb11⟩;have bR11:=bR10.keep hb11;have hbw11:=bSz hbw10 hb11;clear bR10 hbw10 hb11 bB10;have sf0:=bR11.free 0;have sq0:=bR11.set 0 (.int .i64 0);have sf1:=sq0.free 1;have sq1:=sq0.set 1 (.int .i64 0);have sf2:=sq1.free 2;have sq2:=sq1.set 2 (.slice none 0 0);have sf3:=sq2.free 3;have sq3:=sq2.set 3 (.slice none 0 0);have sf4:=sq3.free 4;have sq4:=sq3.set 4 (.slice none 0 0);have sf5:=sq4.free 5;have sq5:=sq4.set 5 (.slice none 0 0);have sN:Bk ((((((w11.setCell ⟨w.heap.size+1,0,none⟩ (.int .i64 0)).setCell ⟨w.heap.size+1,1,none⟩ (.int .i64 0)).setCell ⟨w.heap.size+1,2,none⟩ (.slice none 0 0)).setCell ⟨w.heap.size+1,3,none⟩ (.slice none 0 0)).setCell ⟨w.heap.size+1,4,none⟩ (.slice none 0 0)).setCell ⟨w.heap.size+1,5,none⟩ (.slice none 0 0)) (w.heap.size+1) #[.int .i64 0, .int .i64 0, .slice none 0 0, .slice none 0 0, .slice none 0 0, .slice none 0 0] 30:=sq5;obtain ⟨sy0,sy1,sy2,sy3,sy4,sy5⟩:=bR11.six;obtain ⟨sr0,sr1,sr2,sr3,sr4,sr5⟩:=sN.six;have sset:∀ z,z≠w.heap.size+1->((((((w11.setCell ⟨w.heap.size+1,0,none⟩ (.int .i64 0)).setCell ⟨w.heap.size+1,1,none⟩ (.int .i64 0)).setCell ⟨w.heap.size+1,2,none⟩ (.slice none 0 0)).setCell ⟨w.heap.size+1,3,none⟩ (.slice none 0 0)).setCell ⟨w.heap.size+1,4,none⟩ (.slice none 0 0)).setCell ⟨w.heap.size+1,5,none⟩ (.slice none 0 0)).heap[z]?=w11.heap[z]?:=fun z hz=>(((((Below.heap_setCell _ _ _ _ hz).trans (Below.heap_setCell _ _ _ _ hz)).trans (Below.heap_setCell _ _ _ _ hz)).trans (Below.heap_setCell _ _ _ _ hz)).trans (Below.heap_setCell _ _ _ _ hz)).trans (Below.heap_setCell _ _ _ _ hz);clear sq0 sq1 sq2 sq3 sq4 sq5;have HBF:Hid (Below w.heap.size w ((((((w11.setCell ⟨w.heap.size+1,0,none⟩ (.int .i64 0)).setCell ⟨w.heap.size+1,1,none⟩ (.int .i64 0)).setCell ⟨w.heap.size+1,2,none⟩ (.slice none 0 0)).setCell ⟨w.heap.size+1,3,none⟩ (.slice none 0 0)).setCell ⟨w.heap.size+1,4,none⟩ (.slice none 0 0)).setCell ⟨w.heap.size+1,5,none⟩ (.slice none 0 0))):=((((((hbw11.setCell (by simp) _).setCell (by simp) _).setCell (by simp) _).setCell (by simp) _).setCell (by simp) _).setCell (by simp) _);clear sset sN;go_wp2_with fail;refine bodyPost_ret (v:= .tuple #[sv 0 0 nilV nilV nilV nilV, .bool false]) (by simp [results,Tryz.results125,go_sem,sr0,sr1,sr2,sr3,sr4,sr5];try rfl) rfl ?_;exact .inr ⟨HN.out,_,_,_,_,rfl,fun V _=>zero_ses V,HBF.out⟩
  ·have HN:Hid (inS s (j:Int) l=some ⟨s.t,putK s.K j l,s.f,s.d⟩):=by show _=_;rw [HI2.out,hal2];rfl
   go_wp2_with fail;clear t0 t1 t2 t3 t4 t5 y0 y1 y2 y3 y4 y5 fI cI9;generalize (w9.setCell ⟨gI,j,none⟩ (.slice a8 S.length c8))=W10 at *;refine (specSessOk_eq hal2 HS10.out).mono ?_;rintro e w11 ⟨rfl,hb11⟩;have bR11:=bR10.keep hb11;have bB11:=bB10.keep hb11;have hbw11:=bSz hbw10 hb11;have HG11:Hid (w11.heap[gI]?=W10.heap[gI]?):=hb11.block gI (by rw [HZW.out];exact bI9l);have H11:Hid (∀ z,z≠gI->z<w9.heap.size->w11.heap[z]?=w9.heap[z]?):=fun z h1 h2=>(hb11.block z (by rw [HZW.out];exact h2)).trans (HSET.out z h1);have hb11s:Hid (W10.heap.size<=w11.heap.size):=hb11.size;have HB2:Hid (w.heap.size+2<=w2.heap.size):=hB3;clear bR10 hbw10 hb11 bB10;obtain ⟨t0,t1,t2,t3,t4,t5⟩:=bB11.six;have sf0:=bR11.free 0;have sq0:=bR11.set 0 (.int .i64 s.t.k);have sf1:=sq0.free 1;have sq1:=sq0.set 1 (.int .i64 s.t.n);have sf2:=sq1.free 2;have sq2:=sq1.set 2 (.slice p0 s.t.len q0);have sf3:=sq2.free 3;have sq3:=sq2.set 3 (.slice (some ⟨gI,0,none⟩) s.K.length q1);have sf4:=sq3.free 4;have sq4:=sq3.set 4 (.slice p2 s.f.length q2);have sf5:=sq4.free 5;have sq5:=sq4.set 5 (.slice p3 s.d.length q3);have sN:Bk ((((((w11.setCell ⟨w.heap.size+1,0,none⟩ (.int .i64 s.t.k)).setCell ⟨w.heap.size+1,1,none⟩ (.int .i64 s.t.n)).setCell ⟨w.heap.size+1,2,none⟩ (.slice p0 s.t.len q0)).setCell ⟨w.heap.size+1,3,none⟩ (.slice (some ⟨gI,0,none⟩) s.K.length q1)).setCell ⟨w.heap.size+1,4,none⟩ (.slice p2 s.f.length q2)).setCell ⟨w.heap.size+1,5,none⟩ (.slice p3 s.d.length q3)) (w.heap.size+1) #[.int .i64 s.t.k, .int .i64 s.t.n, .slice p0 s.t.len q0, .slice (some ⟨gI,0,none⟩) s.K.length q1, .slice p2 s.f.length q2, .slice p3 s.d.length q3] 30:=sq5;obtain ⟨sy0,sy1,sy2,sy3,sy4,sy5⟩:=bR11.six;obtain ⟨sr0,sr1,sr2,sr3,sr4,sr5⟩:=sN.six;have sset:∀ z,z≠w.heap.size+1->((((((w11.setCell ⟨w.heap.size+1,0,none⟩ (.int .i64 s.t.k)).setCell ⟨w.heap.size+1,1,none⟩ (.int .i64 s.t.n)).setCell ⟨w.heap.size+1,2,none⟩ (.slice p0 s.t.len q0)).setCell ⟨w.heap.size+1,3,none⟩ (.slice (some ⟨gI,0,none⟩) s.K.length q1)).setCell ⟨w.heap.size+1,4,none⟩ (.slice p2 s.f.length q2)).setCell ⟨w.heap.size+1,5,none⟩ (.slice p3 s.d.length q3)).heap[z]?=w11.heap[z]?:=fun z hz=>(((((Below.heap_setCell _ _ _ _ hz).trans (Below.heap_setCell _ _ _ _ hz)).trans (Below.heap_setCell _ _ _ _ hz)).trans (Below.heap_setCell _ _ _ _ hz)).trans (Below.heap_setCell _ _ _ _ hz)).trans (Below.heap_setCell _ _ _ _ hz);clear sq0 sq1 sq2 sq3 sq4 sq5;have zB11:=hb11s.out;have zW:((((((w11.setCell ⟨w.heap.size+1,0,none⟩ (.int .i64 s.t.k)).setCell ⟨w.heap.size+1,1,none⟩ (.int .i64 s.t.n)).setCell ⟨w.heap.size+1,2,none⟩ (.slice p0 s.t.len q0)).setCell ⟨w.heap.size+1,3,none⟩ (.slice (some ⟨gI,0,none⟩) s.K.length q1)).setCell ⟨w.heap.size+1,4,none⟩ (.slice p2 s.f.length q2)).setCell ⟨w.heap.size+1,5,none⟩ (.slice p3 s.d.length q3)).heap.size=w11.heap.size:=by simp
   have HSF:Hid (SesN ((((((w11.setCell ⟨w.heap.size+1,0,none⟩ (.int .i64 s.t.k)).setCell ⟨w.heap.size+1,1,none⟩ (.int .i64 s.t.n)).setCell ⟨w.heap.size+1,2,none⟩ (.slice p0 s.t.len q0)).setCell ⟨w.heap.size+1,3,none⟩ (.slice (some ⟨gI,0,none⟩) s.K.length q1)).setCell ⟨w.heap.size+1,4,none⟩ (.slice p2 s.f.length q2)).setCell ⟨w.heap.size+1,5,none⟩ (.slice p3 s.d.length q3)) (fun z=>w.heap.size+2<=z) (.slice p0 s.t.len q0) (.slice (some ⟨gI,0,none⟩) s.K.length q1) (.slice p2 s.f.length q2) (.slice p3 s.d.length q3) ⟨s.t,putK s.K j l,s.f,s.d⟩):=by
    intro V hV;have hz2:=HB2.out;have hz9:=HZW.out;have hag:∀ z,w.heap.size+2<=z->z<w11.heap.size->V.heap[z]?=w11.heap[z]?:=fun z h1 h2=>(hV z h1 (by rw [zW];exact h2)).trans (sset z (by omega));exact HSV.out V ((hag gI (by omega) (by omega)).trans HG11.out) fun z h1 h2 h3=>(hag z (by omega) (by omega)).trans (H11.out z h2 h3)
   have HBF:Hid (Below w.heap.size w ((((((w11.setCell ⟨w.heap.size+1,0,none⟩ (.int .i64 s.t.k)).setCell ⟨w.heap.size+1,1,none⟩ (.int .i64 s.t.n)).setCell ⟨w.heap.size+1,2,none⟩ (.slice p0 s.t.len q0)).setCell ⟨w.heap.size+1,3,none⟩ (.slice (some ⟨gI,0,none⟩) s.K.length q1)).setCell ⟨w.heap.size+1,4,none⟩ (.slice p2 s.f.length q2)).setCell ⟨w.heap.size+1,5,none⟩ (.slice p3 s.d.length q3))):=((((((hbw11.setCell (by simp) _).setCell (by simp) _).setCell (by simp) _).setCell (by simp) _).setCell (by simp) _).setCell (by simp) _);clear sset sN zB11 zW;go_wp2_with fail;refine bodyPost_ret (v:= .tuple #[sv s.t.k s.t.n (.slice p0 s.t.len q0) (.slice (some ⟨gI,0,none⟩) s.K.length q1) (.slice p2 s.f.length q2) (.slice p3 s.d.length q3), .bool true]) (by simp [results,Tryz.results125,go_sem,sr0,sr1,sr2,sr3,sr4,sr5];try rfl) rfl ?_;exact .inl ⟨_,HN.out,_,_,_,_,rfl,HSF.out,HBF.out⟩
attribute [local go_sem ↓] Go.wp_at_zero Go.wp_at_succ
theorem Rd.grew {B:Nat} {w w':World} {g:Nat} {v:Value} {n:Nat} {p:Int} {row:Option Nat} (h:Rd B w g v n p) (hg:w.grownBy w' row) (hr:∀ q,row=some q->g<q):Rd B w' g v n p:=by
 refine ⟨?_,?_,h.few,h.here,Nat.le_trans h.size hg.size⟩
 ·unfold Bk;rw [hg.block g h.blk.lt (fun e=>by have:=hr g e.symm;omega)];exact h.blk
 ·obtain ⟨a,cap,rfl,h1,h2,h3⟩:=h.bytes;refine ⟨a,cap,rfl,h1,h2,fun i hi=>?_⟩;obtain ⟨b,off,z,rfl,hb,hc,h4,h5⟩:=h3 i hi;have hB:=h.here;have hs:=h.size;have hbl:=Below.grown (Below.refl B w) hg h.size (fun k e=>by have:=hr k e;omega);exact ⟨b,off,z,rfl,hb,by rw [hbl.cell (p:=⟨b,_,none⟩) hb];exact hc,h4,h5⟩
theorem Bx.setN {g:Nat} {a w:World} (h:Bx g a w) {q:Addr} (hq:a.heap.size<=q.block) (u:Value):Bx g a (w.setCell q u) :=
 ⟨h.os,h.tape,h.output,by simpa [World.setCell] using h.size,fun k hk hg=>by rw [Below.heap_setCell _ _ _ _ (by omega)];exact h.block k hk hg⟩
def okR (r:Rw):Prop:=rwOkB r=true
theorem okR_time {K V A B A' B' D:Int} (h:okR (((K,V),(A,B)),D)) (h':okB A' B'=true):okR (((K,V),(A',B')),D):=by
 unfold okR at h ⊢;simp only [rwOkB,Bool.and_eq_true] at h ⊢
 simp_all
theorem take_abs {l m:List Rw} {j:Nat} {s:Sp} {D:Int} (hr:l[j]?=some (s,D)) (h:absum m=absum (l.take j)) (s':Sp):absum (m++[(s',D)])=absum (l.take (j+1)):=by
 rw [List.take_add_one,hr,absum_append,absum_append,h]
 rfl
theorem l71Behind_any {B:Nat} {w:World} {g:Nat} {v:Value} {n:Nat} {p:Int} (h:Rd B w g v n p) (hp:0<=p) (hp':p<=700000) (lv fv:Value) (l:List Rw) (F:LI) (hl:∀ W,Bx g w W->Rs W lv l) (hf:∀ W,Bx g w W->Ts W fv F) (hsm:∀ r∈l,okR r) (hl10:l.length<=10) (hF:F.length<=100) :
  Calls Tryz.prog 126 #[.pointer (some ⟨g,0,none⟩),lv,fv] w fun e w'=>∃ (o:Value) (m:List Rw),e= .returned o/\m.length=l.length/\absum m=absum l/\(∀ r∈m,okR r)/\OwnR w' w.heap.size o (batchL m)/\(∃ p':Int,p<=p'/\p'<=p+10/\Rd B w' g v n p')/\Bx g w w':=by
 have hg:=h.blk.lt;have HG:Hid (g<w.heap.size):=hg;have HL:=(show Hid (∀ W,Bx g w W->Rs W lv l) from hl);have HF:=(show Hid (∀ W,Bx g w W->Ts W fv F) from hf);have HS:=(show Hid (∀ r∈l,okR r) from hsm);obtain ⟨aL,cL,rfl,hcL,hmL,-⟩:=Rs.open (hl w (Bx.refl _ _));unfold maxLen at hmL;obtain ⟨aF,cF,rfl,-⟩:=hf w (Bx.refl _ _);have h0:=h.keepb (bAz (Below.refl _ _) (.cells #[] 55));have x0:Bx g w (w.alloc (.cells #[] 55)):=(Bx.refl _ _).alloc _;have o0:=oEz w rfl;clear hl hf hsm;go_enter Tryz.func126,Tryz.ntmps126;go_wp2_with fail
 go_loopw [7,8] (fun o i wr=>∃ (j:Nat) (m:List Rw) (p':Int),j<=l.length/\i= .int .i64 j/\m.length=j/\absum m=absum (l.take j)/\(∀ r∈m,okR r)/\OwnR wr w.heap.size o m/\p<=p'/\p'<=p+j/\Rd B wr g v n p'/\Bx g w wr) (fun _ i _=>l.length-(intOf i).toNat)
 case atStart=>exact ⟨0,[],p,by omega,rfl,rfl,by simp,by simp,o0,by omega,by omega,h0,x0⟩
 case round =>
  clear o0 x0 h0;obtain ⟨j,m,p',hj,rfl,hmj,hab,hsmm,hown,hpp,hpq,hr,hx⟩:=hrel;have HO:Hid (OwnR wr w.heap.size u7 m):=hown;have HSM:Hid (∀ r∈m,okR r):=hsmm;have hszr:=hx.size;have SLT:Hid (∀ q,u7.ownBlock=some q->q<wr.heap.size):=fun q e=>oT hown q e;have HMJ:Hid (m.length=j):=hmj;have HAB:Hid (absum m=absum (l.take j)):=hab;clear hab;have hml:m.length<=10:=by omega
  clear hown hsmm hmj
  by_cases hlt:j<l.length
  ·obtain ⟨aL',cL',e,-,-,-,hcells⟩:=Rs.open (HL.out wr hx);obtain ⟨gr,off,K,V,A,B1,D,rfl,hgr,hrj,c0,c1,c2,c3,c4⟩:=hcells j hlt;cases e;have HSR:Hid (okR (((K,V),(A,B1)),D)):=HS.out _ (List.mem_of_getElem? hrj);have HAJ:Hid (∀ s':Sp,absum (m++[(s',D)])=absum (l.take (j+1))):=fun s'=>take_abs hrj HAB.out s';have ij:(j:Int)<(l.length:Int):=by omega
   have hxb:Bx g w (wr.alloc (.cells #[.int .i64 K, .int .i64 V, .int .i64 A, .int .i64 B1, .int .i64 D] 55)):=hx.alloc _;have hrb:Rd B (wr.alloc (.cells #[.int .i64 K, .int .i64 V, .int .i64 A, .int .i64 B1, .int .i64 D] 55)) g v n p':=hr.keepb (bAz (Below.refl _ _) _);have bb:Bk (wr.alloc (.cells #[.int .i64 K, .int .i64 V, .int .i64 A, .int .i64 B1, .int .i64 D] 55)) wr.heap.size #[.int .i64 K, .int .i64 V, .int .i64 A, .int .i64 B1, .int .i64 D] 55:=Bk.new _ _ rfl;have OB:Hid (OwnR (wr.alloc (.cells #[.int .i64 K, .int .i64 V, .int .i64 A, .int .i64 B1, .int .i64 D] 55)) w.heap.size u7 m):=HO.out.alloc _;clear hcells hrj HO
   by_cases hF0:F.length=0
   ·have hF1:decide (0<F.length)=false:=by simp [hF0]
    clear hF0;obtain ⟨z0,z1,z2,z3,z4⟩:=(bb).five;have OA:OwnR ((wr.alloc (.cells #[.int .i64 K, .int .i64 V, .int .i64 A, .int .i64 B1, .int .i64 D] 55)).alloc (.cells #[.int .i64 K, .int .i64 V, .int .i64 A, .int .i64 B1, .int .i64 D] 55)) w.heap.size u7 m:=(OB.out).alloc _;have hzA:w.heap.size<=((wr.alloc (.cells #[.int .i64 K, .int .i64 V, .int .i64 A, .int .i64 B1, .int .i64 D] 55)).alloc (.cells #[.int .i64 K, .int .i64 V, .int .i64 A, .int .i64 B1, .int .i64 D] 55)).heap.size:=by have:=(hxb).size;simp;omega
    go_wp2_with (at_builtin;refine appR _ rfl _ _ rfl w.heap.size _ m rfl OA _ _ _ _ _ _ rfl (Bk.new _ _ (by first|rfl|simp)) (by omega) hzA ?_;intro g5 cap5 w5 own5 hg5 hl5)
    have hxA:Bx g w ((wr.alloc (.cells #[.int .i64 K, .int .i64 V, .int .i64 A, .int .i64 B1, .int .i64 D] 55)).alloc (.cells #[.int .i64 K, .int .i64 V, .int .i64 A, .int .i64 B1, .int .i64 D] 55)):=(hxb).alloc _;have hx5:Bx g w w5:=hxA.grown hg5 (fun q e=>oB OA q e);have rdA:Rd B w5 g v n p':=(Rd.keepb (hrb) (bAz (Below.refl _ _) _)).grew hg5 (fun q e=>by have:=oB OA q e;have:=HG.out;omega);have HM5:Hid (∀ r∈m++[(((K,V),(A,B1)),D)],okR r):=fun r hr=>by
     rcases List.mem_append.1 hr with h|h
     ·exact HSM.out r h
     ·rw [List.mem_singleton.1 h];exact HSR.out
    exact ⟨⟨j+1,m++[(((K,V),(A,B1)),D)],p',by omega,by go_num,by rw [List.length_append,HMJ.out];rfl,HAJ.out _,HM5.out,own5,by omega,by omega,rdA,hx5⟩,by simp [intOf];omega⟩
   have hF1:decide (0<F.length)=true:=by simp;omega
   have hF2:(0:Int)<(F.length:Int):=by omega
   cases hfk:fokB F
   ·go_wp2_with fail;generalize hWB:(wr.alloc (.cells #[.int .i64 K, .int .i64 V, .int .i64 A, .int .i64 B1, .int .i64 D] 55))=wb at *;refine (sQ hfk (HF.out wb hxb)).mono ?_;rintro e w2 ⟨rfl,hb2⟩;have hx2:=hxb.trans (Bx.of_below hb2);have hr2:=hrb.keepb hb2;have b2:=bb.keep hb2;have O2:=oKz OB.out hb2;clear c0 c1 c2 c3 c4 hWB;obtain ⟨z0,z1,z2,z3,z4⟩:=(b2).five;have OA:OwnR (w2.alloc (.cells #[.int .i64 K, .int .i64 V, .int .i64 A, .int .i64 B1, .int .i64 D] 55)) w.heap.size u7 m:=(O2).alloc _;have hzA:w.heap.size<=(w2.alloc (.cells #[.int .i64 K, .int .i64 V, .int .i64 A, .int .i64 B1, .int .i64 D] 55)).heap.size:=by have:=(hx2).size;simp;omega
    go_wp2_with (at_builtin;refine appR _ rfl _ _ rfl w.heap.size _ m rfl OA _ _ _ _ _ _ rfl (Bk.new _ _ (by first|rfl|simp)) (by omega) hzA ?_;intro g5 cap5 w5 own5 hg5 hl5)
    have hxA:Bx g w (w2.alloc (.cells #[.int .i64 K, .int .i64 V, .int .i64 A, .int .i64 B1, .int .i64 D] 55)):=(hx2).alloc _;have hx5:Bx g w w5:=hxA.grown hg5 (fun q e=>oB OA q e);have rdA:Rd B w5 g v n p':=(Rd.keepb (hr2) (bAz (Below.refl _ _) _)).grew hg5 (fun q e=>by have:=oB OA q e;have:=HG.out;omega);have HM5:Hid (∀ r∈m++[(((K,V),(A,B1)),D)],okR r):=fun r hr=>by
     rcases List.mem_append.1 hr with h|h
     ·exact HSM.out r h
     ·rw [List.mem_singleton.1 h];exact HSR.out
    exact ⟨⟨j+1,m++[(((K,V),(A,B1)),D)],p',by omega,by go_num,by rw [List.length_append,HMJ.out];rfl,HAJ.out _,HM5.out,own5,by omega,by omega,rdA,hx5⟩,by simp [intOf];omega⟩
   ·go_wp2_with fail;generalize hWB:(wr.alloc (.cells #[.int .i64 K, .int .i64 V, .int .i64 A, .int .i64 B1, .int .i64 D] 55))=wb at *;refine (sQ hfk (HF.out wb hxb)).mono ?_;rintro e w2 ⟨rfl,hb2⟩;have hx2:=hxb.trans (Bx.of_below hb2);have hr2:=hrb.keepb hb2;have b2:=bb.keep hb2;have O2:Hid (OwnR w2 w.heap.size u7 m):=oKz OB.out hb2;have hxD:=hx2.drew;have hrD:Rd B w2.drew g v n p':=hr2.keepb (Below.refl _ _).drew;have bD:=b2.drew;obtain ⟨y0,y1,y2,y3,y4⟩:=b2.five;obtain ⟨v0,v1,v2,v3,v4⟩:=bD.five;clear c0 c1 c2 c3 c4 hWB;have hBw:B<=wr.heap.size:=hr.size;have hxbg:wr.heap.size≠g:=by have:=HG.out;omega
    have hFl:(F.length:Int)<=1000:=by omega
    have hF1':(1:Int)<=(F.length:Int):=by omega
    go_wp2_with fail
    go_region_with (first
     | (go_at_call 60;refine (pA hrD (by omega) (by omega) _ hF1' hFl).mono ?_;rintro e w3 ⟨kI,rfl,hk0,hk1,hr3,hx3⟩;obtain ⟨kk,rfl⟩:=Int.eq_ofNat_of_zero_le hk0;have b3:=bD.keepx hx3 hxbg;have hx23:=hxD.trans hx3;obtain ⟨t0,t1,t2,t3,t4⟩:=b3.five;obtain ⟨aF',cF',eF,_,_,_,hfc⟩:=HF.out w3 hx23;obtain ⟨gf,off2,eF2,hgf,f0,f1⟩:=hfc kk (by omega);cases eF;cases eF2;have OW3:Hid (OwnR w3 w.heap.size u7 m):=oX O2.out.drew hx3 HG.out)
     | (go_at_call 130;refine (specJoin_any A B1 (tA F kk) (tB F kk) _).mono ?_;rintro e w4 ⟨rfl,hb4⟩;have b4:=b3.keep hb4;obtain ⟨s0,s1,s2,s3,s4⟩:=b4.five;have g2:=b4.free 2;have g3:=b4.free 3))
    all_goals
     have hx4:=hx23.trans (Bx.of_below hb4);have hr4:=hr3.keepb hb4;have O4:OwnR w4 w.heap.size u7 m:=oKz OW3.out hb4;have hokF:okB (tA F kk) (tB F kk)=true:=fok_ok hfk (by omega);have hokA:okB A B1=true:=rw_time HSR.out;have HSJ:Hid (okR (((K,V),(jnA A B1 (tA F kk) (tB F kk),jnB A B1 (tA F kk) (tB F kk))),D)):=okR_time HSR.out (jn_ok hokA hokF);generalize jnA A B1 (tA F kk) (tB F kk)=JA at *;generalize jnB A B1 (tA F kk) (tB F kk)=JB at *;have b5:Bk ((w4.setCell ⟨wr.heap.size,2,none⟩ (.int .i64 JA)).setCell ⟨wr.heap.size,3,none⟩ (.int .i64 JB)) wr.heap.size #[.int .i64 K, .int .i64 V, .int .i64 JA, .int .i64 JB, .int .i64 D] 55:=by simpa using (b4.set 2 (.int .i64 JA)).set 3 (.int .i64 JB)
     have hx5:Bx g w ((w4.setCell ⟨wr.heap.size,2,none⟩ (.int .i64 JA)).setCell ⟨wr.heap.size,3,none⟩ (.int .i64 JB)):=(hx4.setN (show w.heap.size<=wr.heap.size from hszr) _).setN (show w.heap.size<=wr.heap.size from hszr) _;have hr5:Rd B ((w4.setCell ⟨wr.heap.size,2,none⟩ (.int .i64 JA)).setCell ⟨wr.heap.size,3,none⟩ (.int .i64 JB)) g v n (p'+1):=(hr4.apart (q:=⟨wr.heap.size,2,none⟩) (fun e=>hxbg e.symm) hBw _).apart (q:=⟨wr.heap.size,3,none⟩) (fun e=>hxbg e.symm) hBw _;have O5:OwnR ((w4.setCell ⟨wr.heap.size,2,none⟩ (.int .i64 JA)).setCell ⟨wr.heap.size,3,none⟩ (.int .i64 JB)) w.heap.size u7 m:=oAz O4 fun q e=>by
      have:=SLT.out q e;rw [Below.heap_setCell _ _ _ _ (show q≠wr.heap.size by omega),Below.heap_setCell _ _ _ _ (show q≠wr.heap.size by omega)]
     clear b2 b3 b4 bD hx2 hx3 hx23 hx4 hxD hr2 hr3 hr4 hrD O2 OW3 O4 y0 y1 y2 y3 y4 v0 v1 v2 v3 v4 t0 t1 t2 t3 t4 s0 s1 s2 s3 s4 g2 g3 hb2 hb4 f0 f1;generalize ((w4.setCell ⟨wr.heap.size,2,none⟩ (.int .i64 JA)).setCell ⟨wr.heap.size,3,none⟩ (.int .i64 JB))=w5 at *;obtain ⟨z0,z1,z2,z3,z4⟩:=(b5).five;have OA:OwnR (w5.alloc (.cells #[.int .i64 K, .int .i64 V, .int .i64 JA, .int .i64 JB, .int .i64 D] 55)) w.heap.size u7 m:=(O5).alloc _;have hzA:w.heap.size<=(w5.alloc (.cells #[.int .i64 K, .int .i64 V, .int .i64 JA, .int .i64 JB, .int .i64 D] 55)).heap.size:=by have:=(hx5).size;simp;omega
     go_wp2_with (at_builtin;refine appR _ rfl _ _ rfl w.heap.size _ m rfl OA _ _ _ _ _ _ rfl (Bk.new _ _ (by first|rfl|simp)) (by omega) hzA ?_;intro g5 cap5 w6 own5 hg5 hl5)
     have hxA:Bx g w (w5.alloc (.cells #[.int .i64 K, .int .i64 V, .int .i64 JA, .int .i64 JB, .int .i64 D] 55)):=(hx5).alloc _;have hx6:Bx g w w6:=hxA.grown hg5 (fun q e=>oB OA q e);have rdA:Rd B w6 g v n (p'+1):=(Rd.keepb (hr5) (bAz (Below.refl _ _) _)).grew hg5 (fun q e=>by have:=oB OA q e;have:=HG.out;omega);have HM5:Hid (∀ r∈m++[(((K,V),(JA,JB)),D)],okR r):=fun r hr=>by
      rcases List.mem_append.1 hr with h|h
      ·exact HSM.out r h
      ·rw [List.mem_singleton.1 h];exact HSJ.out
     exact ⟨⟨j+1,m++[(((K,V),(JA,JB)),D)],(p'+1),by omega,by go_num,by rw [List.length_append,HMJ.out];rfl,HAJ.out _,HM5.out,own5,by omega,by omega,rdA,hx6⟩,by simp [intOf];omega⟩
  ·obtain rfl:j=l.length:=by omega
   have R1:Rs wr u7 m:=OwnR.rs HO.out (by omega);go_wp2_with fail;refine (specBatchOf_any u7 m _ R1).mono ?_;rintro e w2 ⟨o2,rfl,own2,hb2⟩;have HO2:Hid (OwnR w2 wr.heap.size o2 (batchL m)):=own2;clear own2;go_wp2_with fail;go_ret;exact ⟨_,m,rfl,HMJ.out,(by rw [HAB.out,List.take_length]),HSM.out,oLz HO2.out hszr,⟨p',hpp,by omega,hr.keepb hb2⟩,hx.trans (Bx.of_below hb2)⟩
theorem batch_abs (l:List Rw):absum (batchL l)<=absum l:=by
 unfold batchL;split
 ·exact sumF_absR l
 ·exact absum_pos l
theorem sm_abs {l:List Rw} {n:Int} (hn:(l.length:Int)<=n) (h:∀ r∈l,smR r):absum l<=3*n:=by
 have h1:=absum_le (l:=l) (c:=3) fun r hr=>(h r hr).2;omega
theorem batch_few (l:List Rw):(batchL l).length<=l.length:=by
 unfold batchL;split
 ·exact sumF_len l
 ·simp
def fu (b:Bool) (k:Int):Int:=if b then k else 0
theorem fN {L:Array Bool} {i j:Nat} {k:Int} (h:i≠j):fu ((L.setIfInBounds i true).getD j false) k=fu (L.getD j false) k:=by
 simp [fu,Array.getD_eq_getD_getElem?,Array.getElem?_setIfInBounds_ne h]
theorem fu_here {L:Array Bool} {i:Nat} {k:Int} (h:i<L.size):fu ((L.setIfInBounds i true).getD i false) k=k:=by
 rw [gH h];rfl
theorem fu_no {L:Array Bool} {i:Nat} {k:Int} (h:L.getD i true=false):fu (L.getD i false) k=0:=by
 have:L.getD i false=false:=by
  cases e:L.getD i false
  ·rfl
  ·exact (gN e h).elim
 rw [this];rfl
def AnsX (G:SS->Prop) (W:World) (P:Nat->Prop) (x o:Value):Prop:=∃ (s:SS) (sp si sf sd:Value) (ok:Bool),x=sv s.t.k s.t.n sp si sf sd/\o= .bool ok/\(ok=true->G s)/\SesN W P sp si sf sd s
theorem AnsX.move {G:SS->Prop} {W W1:World} {P Q:Nat->Prop} {x o:Value} (h:AnsX G W P x o) (H:∀ z,P z->z<W.heap.size->Q z/\W1.heap[z]?=W.heap[z]?) (hs:W.heap.size<=W1.heap.size):AnsX G W1 Q x o:=by
 obtain ⟨s,sp,si,sf,sd,ok,h1,h2,h3,h4⟩:=h;exact ⟨s,sp,si,sf,sd,ok,h1,h2,h3,h4.move H hs⟩
theorem AnsX.wk {G:SS->Prop} {W:World} {P Q:Nat->Prop} {x o:Value} (h:AnsX G W P x o) (H:∀ z,P z->z<W.heap.size->Q z):AnsX G W Q x o:=h.move (fun z hz hl=>⟨H z hz hl,rfl⟩) (Nat.le_refl _)
def SeX (B g N:Nat) (v:Value) (n:Nat) (p0 f:Int) (G:SS->Prop) (W:World) (x o:Value):Prop :=
 ∃ (q:Nat) (k2 n2:Int) (e0 e1 e2 e3:Value) (p3:Int),x= .pointer (some ⟨q,0,none⟩)/\N<=q/\Bk W q #[.int .i64 k2, .int .i64 n2,e0,e1,e2,e3] 30/\AnsX G W (fun z=>N<=z/\z≠q) (sv k2 n2 e0 e1 e2 e3) o/\p0<=p3/\p3<=p0+f/\Rd B W g v n p3
structure OnX (B g N:Nat) (v:Value) (n:Nat) (p0:Int) (G:SS->Prop) (SV FV:Value) (b:Nat) (L:Array Bool) (W:World) (t6 t7 t8 t26 t27 t28 t29 t30 t31 t32 t33 t34:Value):Prop where
 rd:∃ p3:Int,p0<=p3/\p3<=p0+(fu (L.getD 3 false) 500)/\Rd B W g v n p3
 s0:L.getD 0 false=true->t27=SV
 s1:L.getD 1 false=true->t28= .pointer (some ⟨g,0,none⟩)
 s2:L.getD 2 false=true->t29=SV
 s3:L.getD 3 false=true->∃ f:LI,f.length<=1000/\Own W N t30 f
 s4:L.getD 4 false=true->∃ x m o:Value,t31= .tuple #[x,m,o]/\AnsX G W (fun z=>N<=z/\(L.getD 9 false=true->t6≠ .pointer (some ⟨z,0,none⟩))) x o
 s5:L.getD 5 false=true->t26=t31
 s6:L.getD 6 false=true->∃ x m o:Value,t31= .tuple #[x,m,o]/\t32=x
 s7:L.getD 7 false=true->∃ x m o:Value,t31= .tuple #[x,m,o]/\t33=m
 s8:L.getD 8 false=true->∃ x m o:Value,t31= .tuple #[x,m,o]/\t34=o
 s9:L.getD 9 false=true->∃ q:Nat,t6= .pointer (some ⟨q,0,none⟩)/\N<=q
 s10:L.getD 10 false=true->∃ (q:Nat) (k2 n2:Int) (e0 e1 e2 e3:Value) (m o:Value),t6= .pointer (some ⟨q,0,none⟩)/\N<=q/\t31= .tuple #[sv k2 n2 e0 e1 e2 e3,m,o]/\Bk W q #[.int .i64 k2, .int .i64 n2,e0,e1,e2,e3] 30
 s11:L.getD 11 false=true->∃ x m o:Value,t31= .tuple #[x,m,o]/\t7=m
 s12:L.getD 12 false=true->∃ x m o:Value,t31= .tuple #[x,m,o]/\t8=o
 c5:L.getD 5 false=true->L.getD 4 false=true
 c6:L.getD 6 false=true->L.getD 4 false=true
 c7:L.getD 7 false=true->L.getD 4 false=true
 c8:L.getD 8 false=true->L.getD 4 false=true
 c10:L.getD 10 false=true->L.getD 4 false=true
 c11:L.getD 11 false=true->L.getD 4 false=true
 c12:L.getD 12 false=true->L.getD 4 false=true
 d:L.getD 10 false=true->L.getD 9 false=true
 z:L.getD 9 false=true->L.getD 10 true=false->∃ q:Nat,t6= .pointer (some ⟨q,0,none⟩)/\N<=q/\Bk W q #[.int .i64 0, .int .i64 0, .slice none 0 0, .slice none 0 0, .slice none 0 0, .slice none 0 0] 30
section
variable {B g N:Nat} {v:Value} {n:Nat} {p0:Int} {G:SS->Prop} {SV FV:Value} {b:Nat} {L:Array Bool} {W W':World} {t6 t7 t8 t26 t27 t28 t29 t30 t31 t32 t33 t34:Value}
theorem OnX.keep (h:OnX B g N v n p0 G SV FV b L W t6 t7 t8 t26 t27 t28 t29 t30 t31 t32 t33 t34) (hb:Below W.heap.size W W') (hg:g<N):OnX B g N v n p0 G SV FV b L W' t6 t7 t8 t26 t27 t28 t29 t30 t31 t32 t33 t34 where
 rd:=by obtain ⟨p3,h1,h2,h3⟩:=h.rd;exact ⟨p3,h1,h2,h3.keepb hb⟩
 s0:=h.s0
 s1:=h.s1
 s2:=h.s2
 s3:=fun e=>by have hx:Bx g W W':=Bx.of_below hb;exact (by obtain ⟨a0,a1,ow⟩:=h.s3 e;exact ⟨a0,a1,oX ow hx hg⟩)
 s4:=fun e=>by have hx:Bx g W W':=Bx.of_below hb;exact (by obtain ⟨x,m,o,e1,an⟩:=h.s4 e;exact ⟨x,m,o,e1,an.move (fun z hz hl=>⟨hz,hx.block z hl (by have:=hz.1;omega)⟩) hx.size⟩)
 s5:=h.s5
 s6:=h.s6
 s7:=h.s7
 s8:=h.s8
 s9:=h.s9
 s10:=fun e=>by have hx:Bx g W W':=Bx.of_below hb;exact (by obtain ⟨q,k2,n2,e0,e1,e2,e3,m,o,h1,h2,h3,h4⟩:=h.s10 e;exact ⟨q,k2,n2,e0,e1,e2,e3,m,o,h1,h2,h3,h4.keepx hx (by omega)⟩)
 s11:=h.s11
 s12:=h.s12
 c5:=h.c5
 c6:=h.c6
 c7:=h.c7
 c8:=h.c8
 c10:=h.c10
 c11:=h.c11
 c12:=h.c12
 d:=h.d
 z:=fun e1 e2=>by obtain ⟨q,h1,h2,h3⟩:=h.z e1 e2;exact ⟨q,h1,h2,h3.keep hb⟩
theorem OnX.put0 {u:Value} (h:OnX B g N v n p0 G SV FV b L W t6 t7 t8 t26 t27 t28 t29 t30 t31 t32 t33 t34) (hu:u=SV):OnX B g N v n p0 G SV FV b (L.setIfInBounds 0 true) W t6 t7 t8 t26 u t28 t29 t30 t31 t32 t33 t34 where
 rd:=by obtain ⟨p3,h1,h2,h3⟩:=h.rd;exact ⟨p3,h1,by rw [fN (i:=0) (j:=3) (by decide)];exact h2,h3⟩
 s0:=fun _=>hu
 s1:=fun e=>h.s1 (gS e)
 s2:=fun e=>h.s2 (gS e)
 s3:=fun e=>h.s3 (gS e)
 s4:=fun e=>by obtain ⟨x,m,o,e1,an⟩:=h.s4 (gS e);exact ⟨x,m,o,e1,an.wk fun z hz _=>⟨hz.1,fun e=>hz.2 (gS e)⟩⟩
 s5:=fun e=>h.s5 (gS e)
 s6:=fun e=>h.s6 (gS e)
 s7:=fun e=>h.s7 (gS e)
 s8:=fun e=>h.s8 (gS e)
 s9:=fun e=>h.s9 (gS e)
 s10:=fun e=>h.s10 (gS e)
 s11:=fun e=>h.s11 (gS e)
 s12:=fun e=>h.s12 (gS e)
 c5:=fun e=>gU (h.c5 (gS e))
 c6:=fun e=>gU (h.c6 (gS e))
 c7:=fun e=>gU (h.c7 (gS e))
 c8:=fun e=>gU (h.c8 (gS e))
 c10:=fun e=>gU (h.c10 (gS e))
 c11:=fun e=>gU (h.c11 (gS e))
 c12:=fun e=>gU (h.c12 (gS e))
 d:=fun e=>gU (h.d (gS e))
 z:=fun e1 e2=>h.z (gS e1) (gT e2)
theorem OnX.put1 {u:Value} (h:OnX B g N v n p0 G SV FV b L W t6 t7 t8 t26 t27 t28 t29 t30 t31 t32 t33 t34) (hu:u= .pointer (some ⟨g,0,none⟩)):OnX B g N v n p0 G SV FV b (L.setIfInBounds 1 true) W t6 t7 t8 t26 t27 u t29 t30 t31 t32 t33 t34 where
 rd:=by obtain ⟨p3,h1,h2,h3⟩:=h.rd;exact ⟨p3,h1,by rw [fN (i:=1) (j:=3) (by decide)];exact h2,h3⟩
 s1:=fun _=>hu
 s0:=fun e=>h.s0 (gS e)
 s2:=fun e=>h.s2 (gS e)
 s3:=fun e=>h.s3 (gS e)
 s4:=fun e=>by obtain ⟨x,m,o,e1,an⟩:=h.s4 (gS e);exact ⟨x,m,o,e1,an.wk fun z hz _=>⟨hz.1,fun e=>hz.2 (gS e)⟩⟩
 s5:=fun e=>h.s5 (gS e)
 s6:=fun e=>h.s6 (gS e)
 s7:=fun e=>h.s7 (gS e)
 s8:=fun e=>h.s8 (gS e)
 s9:=fun e=>h.s9 (gS e)
 s10:=fun e=>h.s10 (gS e)
 s11:=fun e=>h.s11 (gS e)
 s12:=fun e=>h.s12 (gS e)
 c5:=fun e=>gU (h.c5 (gS e))
 c6:=fun e=>gU (h.c6 (gS e))
 c7:=fun e=>gU (h.c7 (gS e))
 c8:=fun e=>gU (h.c8 (gS e))
 c10:=fun e=>gU (h.c10 (gS e))
 c11:=fun e=>gU (h.c11 (gS e))
 c12:=fun e=>gU (h.c12 (gS e))
 d:=fun e=>gU (h.d (gS e))
 z:=fun e1 e2=>h.z (gS e1) (gT e2)
theorem OnX.put2 {u:Value} (h:OnX B g N v n p0 G SV FV b L W t6 t7 t8 t26 t27 t28 t29 t30 t31 t32 t33 t34) (hu:u=SV):OnX B g N v n p0 G SV FV b (L.setIfInBounds 2 true) W t6 t7 t8 t26 t27 t28 u t30 t31 t32 t33 t34 where
 rd:=by obtain ⟨p3,h1,h2,h3⟩:=h.rd;exact ⟨p3,h1,by rw [fN (i:=2) (j:=3) (by decide)];exact h2,h3⟩
 s2:=fun _=>hu
 s0:=fun e=>h.s0 (gS e)
 s1:=fun e=>h.s1 (gS e)
 s3:=fun e=>h.s3 (gS e)
 s4:=fun e=>by obtain ⟨x,m,o,e1,an⟩:=h.s4 (gS e);exact ⟨x,m,o,e1,an.wk fun z hz _=>⟨hz.1,fun e=>hz.2 (gS e)⟩⟩
 s5:=fun e=>h.s5 (gS e)
 s6:=fun e=>h.s6 (gS e)
 s7:=fun e=>h.s7 (gS e)
 s8:=fun e=>h.s8 (gS e)
 s9:=fun e=>h.s9 (gS e)
 s10:=fun e=>h.s10 (gS e)
 s11:=fun e=>h.s11 (gS e)
 s12:=fun e=>h.s12 (gS e)
 c5:=fun e=>gU (h.c5 (gS e))
 c6:=fun e=>gU (h.c6 (gS e))
 c7:=fun e=>gU (h.c7 (gS e))
 c8:=fun e=>gU (h.c8 (gS e))
 c10:=fun e=>gU (h.c10 (gS e))
 c11:=fun e=>gU (h.c11 (gS e))
 c12:=fun e=>gU (h.c12 (gS e))
 d:=fun e=>gU (h.d (gS e))
 z:=fun e1 e2=>h.z (gS e1) (gT e2)
theorem OnX.put3 {u:Value} {p3 p4:Int} (hg:g<N) (hLs:L.size=13) (hun:L.getD 3 true=false) (h:OnX B g N v n p0 G SV FV b L W t6 t7 t8 t26 t27 t28 t29 t30 t31 t32 t33 t34) (hx:Bx g W W') (h1:p0<=p3) (h2:p3<=p0+(fu (L.getD 3 false) 500)) (h3:p3<=p4) (h4:p4<=p3+500) (hr:Rd B W' g v n p4) (hu:∃ f:LI,f.length<=1000/\Own W' N u f):OnX B g N v n p0 G SV FV b (L.setIfInBounds 3 true) W' t6 t7 t8 t26 t27 t28 t29 u t31 t32 t33 t34 where
 rd:=⟨p4,by omega,by rw [fu_here (i:=3) (by omega)];rw [fu_no hun] at h2;omega,hr⟩
 s0:=fun e=>h.s0 (gS e)
 s1:=fun e=>h.s1 (gS e)
 s2:=fun e=>h.s2 (gS e)
 s3:=fun _=>hu
 s4:=fun e=>by obtain ⟨x,m,o,e1,an⟩:=h.s4 (gS e);exact ⟨x,m,o,e1,an.move (fun z hz hl=>⟨⟨hz.1,fun e=>hz.2 (gS e)⟩,hx.block z hl (by have:=hz.1;omega)⟩) hx.size⟩
 s5:=fun e=>h.s5 (gS e)
 s6:=fun e=>h.s6 (gS e)
 s7:=fun e=>h.s7 (gS e)
 s8:=fun e=>h.s8 (gS e)
 s9:=fun e=>h.s9 (gS e)
 s10:=fun e=>(by obtain ⟨q,k2,n2,e0,e1,e2,e3,m,o,h1,h2,h3,h4⟩:=h.s10 (gS e);exact ⟨q,k2,n2,e0,e1,e2,e3,m,o,h1,h2,h3,h4.keepx hx (by omega)⟩)
 s11:=fun e=>h.s11 (gS e)
 s12:=fun e=>h.s12 (gS e)
 c5:=fun e=>gU (h.c5 (gS e))
 c6:=fun e=>gU (h.c6 (gS e))
 c7:=fun e=>gU (h.c7 (gS e))
 c8:=fun e=>gU (h.c8 (gS e))
 c10:=fun e=>gU (h.c10 (gS e))
 c11:=fun e=>gU (h.c11 (gS e))
 c12:=fun e=>gU (h.c12 (gS e))
 d:=fun e=>gU (h.d (gS e))
 z:=fun e1 e2=>by obtain ⟨q,h1,h2,h3⟩:=h.z (gS e1) (gT e2);exact ⟨q,h1,h2,h3.keepx hx (by omega)⟩
theorem OnX.put4 {u:Value} (hL:L.getD 4 false=true->False) (h:OnX B g N v n p0 G SV FV b L W t6 t7 t8 t26 t27 t28 t29 t30 t31 t32 t33 t34) (hu:∃ x m o:Value,u= .tuple #[x,m,o]/\AnsX G W (fun z=>N<=z/\(L.getD 9 false=true->t6≠ .pointer (some ⟨z,0,none⟩))) x o):OnX B g N v n p0 G SV FV b (L.setIfInBounds 4 true) W t6 t7 t8 t26 t27 t28 t29 t30 u t32 t33 t34 where
 rd:=by obtain ⟨p3,h1,h2,h3⟩:=h.rd;exact ⟨p3,h1,by rw [fN (i:=4) (j:=3) (by decide)];exact h2,h3⟩
 s4:=fun _=>by obtain ⟨x,m,o,e1,an⟩:=hu;exact ⟨x,m,o,e1,an.wk fun z hz _=>⟨hz.1,fun e=>hz.2 (gS e)⟩⟩
 s0:=fun e=>h.s0 (gS e)
 s1:=fun e=>h.s1 (gS e)
 s2:=fun e=>h.s2 (gS e)
 s3:=fun e=>h.s3 (gS e)
 s5:=fun e=>(hL (h.c5 (gS e))).elim
 s6:=fun e=>(hL (h.c6 (gS e))).elim
 s7:=fun e=>(hL (h.c7 (gS e))).elim
 s8:=fun e=>(hL (h.c8 (gS e))).elim
 s9:=fun e=>h.s9 (gS e)
 s10:=fun e=>(hL (h.c10 (gS e))).elim
 s11:=fun e=>(hL (h.c11 (gS e))).elim
 s12:=fun e=>(hL (h.c12 (gS e))).elim
 c5:=fun e=>gU (h.c5 (gS e))
 c6:=fun e=>gU (h.c6 (gS e))
 c7:=fun e=>gU (h.c7 (gS e))
 c8:=fun e=>gU (h.c8 (gS e))
 c10:=fun e=>gU (h.c10 (gS e))
 c11:=fun e=>gU (h.c11 (gS e))
 c12:=fun e=>gU (h.c12 (gS e))
 d:=fun e=>gU (h.d (gS e))
 z:=fun e1 e2=>h.z (gS e1) (gT e2)
theorem OnX.put5 {u:Value} (hl:L.getD 4 false=true) (h:OnX B g N v n p0 G SV FV b L W t6 t7 t8 t26 t27 t28 t29 t30 t31 t32 t33 t34) (hu:u=t31):OnX B g N v n p0 G SV FV b (L.setIfInBounds 5 true) W t6 t7 t8 u t27 t28 t29 t30 t31 t32 t33 t34 where
 rd:=by obtain ⟨p3,h1,h2,h3⟩:=h.rd;exact ⟨p3,h1,by rw [fN (i:=5) (j:=3) (by decide)];exact h2,h3⟩
 s5:=fun _=>hu
 s0:=fun e=>h.s0 (gS e)
 s1:=fun e=>h.s1 (gS e)
 s2:=fun e=>h.s2 (gS e)
 s3:=fun e=>h.s3 (gS e)
 s4:=fun e=>by obtain ⟨x,m,o,e1,an⟩:=h.s4 (gS e);exact ⟨x,m,o,e1,an.wk fun z hz _=>⟨hz.1,fun e=>hz.2 (gS e)⟩⟩
 s6:=fun e=>h.s6 (gS e)
 s7:=fun e=>h.s7 (gS e)
 s8:=fun e=>h.s8 (gS e)
 s9:=fun e=>h.s9 (gS e)
 s10:=fun e=>h.s10 (gS e)
 s11:=fun e=>h.s11 (gS e)
 s12:=fun e=>h.s12 (gS e)
 c5:=fun e=>gU (hl)
 c6:=fun e=>gU (h.c6 (gS e))
 c7:=fun e=>gU (h.c7 (gS e))
 c8:=fun e=>gU (h.c8 (gS e))
 c10:=fun e=>gU (h.c10 (gS e))
 c11:=fun e=>gU (h.c11 (gS e))
 c12:=fun e=>gU (h.c12 (gS e))
 d:=fun e=>gU (h.d (gS e))
 z:=fun e1 e2=>h.z (gS e1) (gT e2)
theorem OnX.put6 {u:Value} (hl:L.getD 4 false=true) (h:OnX B g N v n p0 G SV FV b L W t6 t7 t8 t26 t27 t28 t29 t30 t31 t32 t33 t34) (hu:∃ x m o:Value,t31= .tuple #[x,m,o]/\u=x):OnX B g N v n p0 G SV FV b (L.setIfInBounds 6 true) W t6 t7 t8 t26 t27 t28 t29 t30 t31 u t33 t34 where
 rd:=by obtain ⟨p3,h1,h2,h3⟩:=h.rd;exact ⟨p3,h1,by rw [fN (i:=6) (j:=3) (by decide)];exact h2,h3⟩
 s6:=fun _=>hu
 s0:=fun e=>h.s0 (gS e)
 s1:=fun e=>h.s1 (gS e)
 s2:=fun e=>h.s2 (gS e)
 s3:=fun e=>h.s3 (gS e)
 s4:=fun e=>by obtain ⟨x,m,o,e1,an⟩:=h.s4 (gS e);exact ⟨x,m,o,e1,an.wk fun z hz _=>⟨hz.1,fun e=>hz.2 (gS e)⟩⟩
 s5:=fun e=>h.s5 (gS e)
 s7:=fun e=>h.s7 (gS e)
 s8:=fun e=>h.s8 (gS e)
 s9:=fun e=>h.s9 (gS e)
 s10:=fun e=>h.s10 (gS e)
 s11:=fun e=>h.s11 (gS e)
 s12:=fun e=>h.s12 (gS e)
 c5:=fun e=>gU (h.c5 (gS e))
 c6:=fun e=>gU (hl)
 c7:=fun e=>gU (h.c7 (gS e))
 c8:=fun e=>gU (h.c8 (gS e))
 c10:=fun e=>gU (h.c10 (gS e))
 c11:=fun e=>gU (h.c11 (gS e))
 c12:=fun e=>gU (h.c12 (gS e))
 d:=fun e=>gU (h.d (gS e))
 z:=fun e1 e2=>h.z (gS e1) (gT e2)
theorem OnX.put7 {u:Value} (hl:L.getD 4 false=true) (h:OnX B g N v n p0 G SV FV b L W t6 t7 t8 t26 t27 t28 t29 t30 t31 t32 t33 t34) (hu:∃ x m o:Value,t31= .tuple #[x,m,o]/\u=m):OnX B g N v n p0 G SV FV b (L.setIfInBounds 7 true) W t6 t7 t8 t26 t27 t28 t29 t30 t31 t32 u t34 where
 rd:=by obtain ⟨p3,h1,h2,h3⟩:=h.rd;exact ⟨p3,h1,by rw [fN (i:=7) (j:=3) (by decide)];exact h2,h3⟩
 s7:=fun _=>hu
 s0:=fun e=>h.s0 (gS e)
 s1:=fun e=>h.s1 (gS e)
 s2:=fun e=>h.s2 (gS e)
 s3:=fun e=>h.s3 (gS e)
 s4:=fun e=>by obtain ⟨x,m,o,e1,an⟩:=h.s4 (gS e);exact ⟨x,m,o,e1,an.wk fun z hz _=>⟨hz.1,fun e=>hz.2 (gS e)⟩⟩
 s5:=fun e=>h.s5 (gS e)
 s6:=fun e=>h.s6 (gS e)
 s8:=fun e=>h.s8 (gS e)
 s9:=fun e=>h.s9 (gS e)
 s10:=fun e=>h.s10 (gS e)
 s11:=fun e=>h.s11 (gS e)
 s12:=fun e=>h.s12 (gS e)
 c5:=fun e=>gU (h.c5 (gS e))
 c6:=fun e=>gU (h.c6 (gS e))
 c7:=fun e=>gU (hl)
 c8:=fun e=>gU (h.c8 (gS e))
 c10:=fun e=>gU (h.c10 (gS e))
 c11:=fun e=>gU (h.c11 (gS e))
 c12:=fun e=>gU (h.c12 (gS e))
 d:=fun e=>gU (h.d (gS e))
 z:=fun e1 e2=>h.z (gS e1) (gT e2)
theorem OnX.put8 {u:Value} (hl:L.getD 4 false=true) (h:OnX B g N v n p0 G SV FV b L W t6 t7 t8 t26 t27 t28 t29 t30 t31 t32 t33 t34) (hu:∃ x m o:Value,t31= .tuple #[x,m,o]/\u=o):OnX B g N v n p0 G SV FV b (L.setIfInBounds 8 true) W t6 t7 t8 t26 t27 t28 t29 t30 t31 t32 t33 u where
 rd:=by obtain ⟨p3,h1,h2,h3⟩:=h.rd;exact ⟨p3,h1,by rw [fN (i:=8) (j:=3) (by decide)];exact h2,h3⟩
 s8:=fun _=>hu
 s0:=fun e=>h.s0 (gS e)
 s1:=fun e=>h.s1 (gS e)
 s2:=fun e=>h.s2 (gS e)
 s3:=fun e=>h.s3 (gS e)
 s4:=fun e=>by obtain ⟨x,m,o,e1,an⟩:=h.s4 (gS e);exact ⟨x,m,o,e1,an.wk fun z hz _=>⟨hz.1,fun e=>hz.2 (gS e)⟩⟩
 s5:=fun e=>h.s5 (gS e)
 s6:=fun e=>h.s6 (gS e)
 s7:=fun e=>h.s7 (gS e)
 s9:=fun e=>h.s9 (gS e)
 s10:=fun e=>h.s10 (gS e)
 s11:=fun e=>h.s11 (gS e)
 s12:=fun e=>h.s12 (gS e)
 c5:=fun e=>gU (h.c5 (gS e))
 c6:=fun e=>gU (h.c6 (gS e))
 c7:=fun e=>gU (h.c7 (gS e))
 c8:=fun e=>gU (hl)
 c10:=fun e=>gU (h.c10 (gS e))
 c11:=fun e=>gU (h.c11 (gS e))
 c12:=fun e=>gU (h.c12 (gS e))
 d:=fun e=>gU (h.d (gS e))
 z:=fun e1 e2=>h.z (gS e1) (gT e2)
theorem OnX.put9 (hLs:L.size=13) (hun:L.getD 9 true=false) (h0:OnX B g N v n p0 G SV FV b L W t6 t7 t8 t26 t27 t28 t29 t30 t31 t32 t33 t34) (hN:N<=W.heap.size) (hg:g<N) (hb:Below W.heap.size W W') (hb':Bk W' W.heap.size #[.int .i64 0, .int .i64 0, .slice none 0 0, .slice none 0 0, .slice none 0 0, .slice none 0 0] 30):OnX B g N v n p0 G SV FV b (L.setIfInBounds 9 true) W' (.pointer (some ⟨W.heap.size,0,none⟩)) t7 t8 t26 t27 t28 t29 t30 t31 t32 t33 t34:=by
 have h:=h0.keep hb hg;exact {
  rd:=by obtain ⟨p3,h1,h2,h3⟩:=h.rd;exact ⟨p3,h1,by rw [fN (i:=9) (j:=3) (by decide)];exact h2,h3⟩,
  s0:=fun e=>h.s0 (gS e),
  s1:=fun e=>h.s1 (gS e),
  s2:=fun e=>h.s2 (gS e),
  s3:=fun e=>h.s3 (gS e),
  s4:=fun e=>by obtain ⟨x,m,o,e1,an⟩:=h0.s4 (gS e);exact ⟨x,m,o,e1,an.move (fun z hz hl=>⟨⟨hz.1,fun _ e=>by have:=congrArg Addr.block (Option.some.inj (Value.pointer.inj e));simp at this;omega⟩,hb.block z hl⟩) hb.size⟩,
  s5:=fun e=>h.s5 (gS e),
  s6:=fun e=>h.s6 (gS e),
  s7:=fun e=>h.s7 (gS e),
  s8:=fun e=>h.s8 (gS e),
  s9:=fun _=>⟨_,rfl,hN⟩,
  s10:=fun e=>(gN (h.d (gS e)) hun).elim,
  s11:=fun e=>h.s11 (gS e),
  s12:=fun e=>h.s12 (gS e),
  c5:=fun e=>gU (h.c5 (gS e)),
  c6:=fun e=>gU (h.c6 (gS e)),
  c7:=fun e=>gU (h.c7 (gS e)),
  c8:=fun e=>gU (h.c8 (gS e)),
  c10:=fun e=>gU (h.c10 (gS e)),
  c11:=fun e=>gU (h.c11 (gS e)),
  c12:=fun e=>gU (h.c12 (gS e)),
  d:=fun _=>gH (by omega),
  z:=fun _ _=>⟨_,rfl,hN,hb'⟩ }
theorem OnX.put10 {q:Nat} {k2 n2:Int} {e0 e1 e2 e3 m o:Value} (hLs:L.size=13) (hl:L.getD 4 false=true) (hl9:L.getD 9 false=true) (h:OnX B g N v n p0 G SV FV b L W t6 t7 t8 t26 t27 t28 t29 t30 t31 t32 t33 t34) (eb:t6= .pointer (some ⟨q,0,none⟩)) (hN:N<=q) (ea:t31= .tuple #[sv k2 n2 e0 e1 e2 e3,m,o]) (hq:Bk W q #[.int .i64 0, .int .i64 0, .slice none 0 0, .slice none 0 0, .slice none 0 0, .slice none 0 0] 30) (hx:∀ x,x≠q->W'.heap[x]?=W.heap[x]?) (hsz:W'.heap.size=W.heap.size) (hr:∀ p3,Rd B W g v n p3->Rd B W' g v n p3) (hu:Bk W' q #[.int .i64 k2, .int .i64 n2,e0,e1,e2,e3] 30):OnX B g N v n p0 G SV FV b (L.setIfInBounds 10 true) W' t6 t7 t8 t26 t27 t28 t29 t30 t31 t32 t33 t34 where
 rd:=by obtain ⟨p3,h1,h2,h3⟩:=h.rd;exact ⟨p3,h1,by rw [fN (i:=10) (j:=3) (by decide)];exact h2,hr p3 h3⟩
 s0:=fun e=>h.s0 (gS e)
 s1:=fun e=>h.s1 (gS e)
 s2:=fun e=>h.s2 (gS e)
 s3:=fun e=>(by obtain ⟨a0,a1,ow⟩:=h.s3 (gS e);exact ⟨a0,a1,oAz ow fun z e=>hx z (by obtain ⟨d,hd⟩:=time_blk ow e;exact bK hd hq (by decide))⟩)
 s4:=fun e=>(by obtain ⟨x,m,o,e1,an⟩:=h.s4 (gS e);exact ⟨x,m,o,e1,an.move (fun z hz hl=>⟨⟨hz.1,fun _=>hz.2 hl9⟩,hx z fun e=>hz.2 hl9 (by rw [eb,e])⟩) (Nat.le_of_eq hsz.symm)⟩)
 s5:=fun e=>h.s5 (gS e)
 s6:=fun e=>h.s6 (gS e)
 s7:=fun e=>h.s7 (gS e)
 s8:=fun e=>h.s8 (gS e)
 s9:=fun e=>h.s9 (gS e)
 s10:=fun _=>⟨q,k2,n2,e0,e1,e2,e3,m,o,eb,hN,ea,hu⟩
 s11:=fun e=>h.s11 (gS e)
 s12:=fun e=>h.s12 (gS e)
 c5:=fun e=>gU (h.c5 (gS e))
 c6:=fun e=>gU (h.c6 (gS e))
 c7:=fun e=>gU (h.c7 (gS e))
 c8:=fun e=>gU (h.c8 (gS e))
 c10:=fun e=>gU (hl)
 c11:=fun e=>gU (h.c11 (gS e))
 c12:=fun e=>gU (h.c12 (gS e))
 d:=fun _=>gU hl9
 z:=fun _ e2=>absurd e2 (by rw [gH (by omega)];decide)
theorem OnX.put11 {u:Value} (hl:L.getD 4 false=true) (h:OnX B g N v n p0 G SV FV b L W t6 t7 t8 t26 t27 t28 t29 t30 t31 t32 t33 t34) (hu:∃ x m o:Value,t31= .tuple #[x,m,o]/\u=m):OnX B g N v n p0 G SV FV b (L.setIfInBounds 11 true) W t6 u t8 t26 t27 t28 t29 t30 t31 t32 t33 t34 where
 rd:=by obtain ⟨p3,h1,h2,h3⟩:=h.rd;exact ⟨p3,h1,by rw [fN (i:=11) (j:=3) (by decide)];exact h2,h3⟩
 s11:=fun _=>hu
 s0:=fun e=>h.s0 (gS e)
 s1:=fun e=>h.s1 (gS e)
 s2:=fun e=>h.s2 (gS e)
 s3:=fun e=>h.s3 (gS e)
 s4:=fun e=>by obtain ⟨x,m,o,e1,an⟩:=h.s4 (gS e);exact ⟨x,m,o,e1,an.wk fun z hz _=>⟨hz.1,fun e=>hz.2 (gS e)⟩⟩
 s5:=fun e=>h.s5 (gS e)
 s6:=fun e=>h.s6 (gS e)
 s7:=fun e=>h.s7 (gS e)
 s8:=fun e=>h.s8 (gS e)
 s9:=fun e=>h.s9 (gS e)
 s10:=fun e=>h.s10 (gS e)
 s12:=fun e=>h.s12 (gS e)
 c5:=fun e=>gU (h.c5 (gS e))
 c6:=fun e=>gU (h.c6 (gS e))
 c7:=fun e=>gU (h.c7 (gS e))
 c8:=fun e=>gU (h.c8 (gS e))
 c10:=fun e=>gU (h.c10 (gS e))
 c11:=fun e=>gU (hl)
 c12:=fun e=>gU (h.c12 (gS e))
 d:=fun e=>gU (h.d (gS e))
 z:=fun e1 e2=>h.z (gS e1) (gT e2)
theorem OnX.put12 {u:Value} (hl:L.getD 4 false=true) (h:OnX B g N v n p0 G SV FV b L W t6 t7 t8 t26 t27 t28 t29 t30 t31 t32 t33 t34) (hu:∃ x m o:Value,t31= .tuple #[x,m,o]/\u=o):OnX B g N v n p0 G SV FV b (L.setIfInBounds 12 true) W t6 t7 u t26 t27 t28 t29 t30 t31 t32 t33 t34 where
 rd:=by obtain ⟨p3,h1,h2,h3⟩:=h.rd;exact ⟨p3,h1,by rw [fN (i:=12) (j:=3) (by decide)];exact h2,h3⟩
 s12:=fun _=>hu
 s0:=fun e=>h.s0 (gS e)
 s1:=fun e=>h.s1 (gS e)
 s2:=fun e=>h.s2 (gS e)
 s3:=fun e=>h.s3 (gS e)
 s4:=fun e=>by obtain ⟨x,m,o,e1,an⟩:=h.s4 (gS e);exact ⟨x,m,o,e1,an.wk fun z hz _=>⟨hz.1,fun e=>hz.2 (gS e)⟩⟩
 s5:=fun e=>h.s5 (gS e)
 s6:=fun e=>h.s6 (gS e)
 s7:=fun e=>h.s7 (gS e)
 s8:=fun e=>h.s8 (gS e)
 s9:=fun e=>h.s9 (gS e)
 s10:=fun e=>h.s10 (gS e)
 s11:=fun e=>h.s11 (gS e)
 c5:=fun e=>gU (h.c5 (gS e))
 c6:=fun e=>gU (h.c6 (gS e))
 c7:=fun e=>gU (h.c7 (gS e))
 c8:=fun e=>gU (h.c8 (gS e))
 c10:=fun e=>gU (h.c10 (gS e))
 c11:=fun e=>gU (h.c11 (gS e))
 c12:=fun e=>gU (hl)
 d:=fun e=>gU (h.d (gS e))
 z:=fun e1 e2=>h.z (gS e1) (gT e2)
theorem OnX.fin (h:OnX B g N v n p0 G SV FV b L W t6 t7 t8 t26 t27 t28 t29 t30 t31 t32 t33 t34) (hall:∀ j,j<13->L.getD j false=true):SeX B g N v n p0 (500) G W t6 t8:=by
 obtain ⟨p3,h1,h2,h3⟩:=h.rd;rw [hall 3 (by omega)] at h2;obtain ⟨x,m,o,ea,an⟩:=h.s4 (hall 4 (by omega));obtain ⟨q,k2,n2,e0,e1,e2,e3,m',o',eb,hN,ea',bq⟩:=h.s10 (hall 10 (by omega));obtain ⟨x2,m2,o2,ea2,eo⟩:=h.s12 (hall 12 (by omega));rw [ea] at ea' ea2;simp only [Value.tuple.injEq,Array.mk.injEq,List.cons.injEq,and_true] at ea' ea2;obtain ⟨rfl,rfl,rfl⟩:=ea';obtain ⟨rfl,rfl,rfl⟩:=ea2;exact ⟨q,k2,n2,e0,e1,e2,e3,p3,eb,hN,bq,by rw [eo];exact an.wk fun z hz _=>⟨hz.1,fun e=>hz.2 (hall 9 (by omega)) (by rw [eb,e])⟩,h1,by simp only [fu] at h2;omega,h3⟩
end
def OnXI (B g N:Nat) (v:Value) (n:Nat) (p0:Int) (G:SS->Prop) (SV FV:Value) (b:Nat) (f0 f1 y1 y4 y11 y12 y13 y14 y15 y16 y17 y18 y52 y53 y54 y55 y56 y57 y58 y59 y60 y61 y62 y63 y64 y65 y66 y67 y68 y69 y70 y71 y72 y73 y74 y75 y76 y77 y78 y79 y80 y81 y82:Value) (W0:World) (L:Array Bool) (a:Act) (W:World):Prop :=
 L.size=13/\Bx g W0 W/\∃ z9 z10 z19 z20 z21 z22 z23 z24 z25 z35 z36 z37 z38 z39 z40 z41 z42 z43 z44 z45 z46 z47 z48 z49 z50 z51 t6 t7 t8 t26 t27 t28 t29 t30 t31 t32 t33 t34:Value,
  a={ tmps:=#[.pointer (some ⟨g,0,none⟩),y1,f0, .pointer (some ⟨b,0,none⟩),y4,f1,t6,t7,t8,z9,z10,y11,y12,y13,y14,y15,y16,y17,y18,z19,z20,z21,z22,z23,z24,z25,t26,t27,t28,t29,t30,t31,t32,t33,t34,z35,z36,z37,z38,z39,z40,z41,z42,z43,z44,z45,z46,z47,z48,z49,z50,z51,y52,y53,y54,y55,y56,y57,y58,y59,y60,y61,y62,y63,y64,y65,y66,y67,y68,y69,y70,y71,y72,y73,y74,y75,y76,y77,y78,y79,y80,y81,y82],defers:=[] }/\OnX B g N v n p0 G SV FV b L W t6 t7 t8 t26 t27 t28 t29 t30 t31 t32 t33 t34
theorem OnXI_next {B g N:Nat} {v:Value} {n:Nat} {p0:Int} {G:SS->Prop} {SV FV:Value} {b:Nat} {f0 f1 y1 y4 y11 y12 y13 y14 y15 y16 y17 y18 y52 y53 y54 y55 y56 y57 y58 y59 y60 y61 y62 y63 y64 y65 y66 y67 y68 y69 y70 y71 y72 y73 y74 y75 y76 y77 y78 y79 y80 y81 y82:Value} {L:Array Bool} {W':World} {t6 t7 t8 t26 t27 t28 t29 t30 t31 t32 t33 t34:Value} {i:Nat} {W0:World} {z9 z10 z19 z20 z21 z22 z23 z24 z25 z35 z36 z37 z38 z39 z40 z41 z42 z43 z44 z45 z46 z47 z48 z49 z50 z51:Value} (hLs:L.size=13) (hx:Bx g W0 W') (S:OnX B g N v n p0 G SV FV b (L.setIfInBounds i true) W' t6 t7 t8 t26 t27 t28 t29 t30 t31 t32 t33 t34) :
  OnXI B g N v n p0 G SV FV b f0 f1 y1 y4 y11 y12 y13 y14 y15 y16 y17 y18 y52 y53 y54 y55 y56 y57 y58 y59 y60 y61 y62 y63 y64 y65 y66 y67 y68 y69 y70 y71 y72 y73 y74 y75 y76 y77 y78 y79 y80 y81 y82 W0 (L.setIfInBounds i true) { tmps:=#[.pointer (some ⟨g,0,none⟩),y1,f0, .pointer (some ⟨b,0,none⟩),y4,f1,t6,t7,t8,z9,z10,y11,y12,y13,y14,y15,y16,y17,y18,z19,z20,z21,z22,z23,z24,z25,t26,t27,t28,t29,t30,t31,t32,t33,t34,z35,z36,z37,z38,z39,z40,z41,z42,z43,z44,z45,z46,z47,z48,z49,z50,z51,y52,y53,y54,y55,y56,y57,y58,y59,y60,y61,y62,y63,y64,y65,y66,y67,y68,y69,y70,y71,y72,y73,y74,y75,y76,y77,y78,y79,y80,y81,y82],defers:=[] } W' :=
 ⟨by simp [hLs],hx,_,_,_,_,_,_,_,_,_,_,_,_,_,_,_,_,_,_,_,_,_,_,_,_,_,_,_,_,_,_,_,_,_,_,_,_,_,_,rfl,S⟩
structure InX (B g N:Nat) (v:Value) (n:Nat) (p0:Int) (G:SS->Prop) (SV FV:Value) (b:Nat) (L:Array Bool) (W:World) (t9 t10 t37 t38 t39 t40 t41 t42 t43 t44 t45 t46 t47 t48 t49:Value):Prop where
 rd:∃ p3:Int,p0<=p3/\p3<=p0+(fu (L.getD 2 false) 1+fu (L.getD 5 false) 600+fu (L.getD 8 false) 10)/\Rd B W g v n p3
 s0:L.getD 0 false=true->t38=SV
 s1:L.getD 1 false=true->t39= .pointer (some ⟨g,0,none⟩)
 s2:L.getD 2 false=true->∃ k:Int,t40= .int .i64 k/\0<=k/\k<2
 s3:L.getD 3 false=true->t41= .pointer (some ⟨g,0,none⟩)
 s4:L.getD 4 false=true->t42= .pointer (some ⟨g,0,none⟩)
 s5:L.getD 5 false=true->∃ l:List Rw,l.length<=10/\absum l<=9/\bokB l=true/\OwnR W N t43 l
 s6:L.getD 6 false=true->t44= .pointer (some ⟨b,4,none⟩)
 s7:L.getD 7 false=true->t45=FV
 s8:L.getD 8 false=true->∃ l:List Rw,l.length<=10/\absum l<=9/\bokB l=true/\OwnR W N t46 l
 s9:L.getD 9 false=true->∃ x o:Value,t47= .tuple #[x,o]/\AnsX G W (fun z=>N<=z/\(L.getD 13 false=true->t9≠ .pointer (some ⟨z,0,none⟩))) x o
 s10:L.getD 10 false=true->t37=t47
 s11:L.getD 11 false=true->∃ x o:Value,t47= .tuple #[x,o]/\t48=x
 s12:L.getD 12 false=true->∃ x o:Value,t47= .tuple #[x,o]/\t49=o
 s13:L.getD 13 false=true->∃ q:Nat,t9= .pointer (some ⟨q,0,none⟩)/\N<=q
 s14:L.getD 14 false=true->∃ (q:Nat) (k2 n2:Int) (e0 e1 e2 e3:Value) (o:Value),t9= .pointer (some ⟨q,0,none⟩)/\N<=q/\t47= .tuple #[sv k2 n2 e0 e1 e2 e3,o]/\Bk W q #[.int .i64 k2, .int .i64 n2,e0,e1,e2,e3] 30
 s15:L.getD 15 false=true->∃ x o:Value,t47= .tuple #[x,o]/\t10=o
 c10:L.getD 10 false=true->L.getD 9 false=true
 c11:L.getD 11 false=true->L.getD 9 false=true
 c12:L.getD 12 false=true->L.getD 9 false=true
 c14:L.getD 14 false=true->L.getD 9 false=true
 c15:L.getD 15 false=true->L.getD 9 false=true
 d:L.getD 14 false=true->L.getD 13 false=true
 z:L.getD 13 false=true->L.getD 14 true=false->∃ q:Nat,t9= .pointer (some ⟨q,0,none⟩)/\N<=q/\Bk W q #[.int .i64 0, .int .i64 0, .slice none 0 0, .slice none 0 0, .slice none 0 0, .slice none 0 0] 30
section
variable {B g N:Nat} {v:Value} {n:Nat} {p0:Int} {G:SS->Prop} {SV FV:Value} {b:Nat} {L:Array Bool} {W W':World} {t9 t10 t37 t38 t39 t40 t41 t42 t43 t44 t45 t46 t47 t48 t49:Value}
theorem InX.keep (h:InX B g N v n p0 G SV FV b L W t9 t10 t37 t38 t39 t40 t41 t42 t43 t44 t45 t46 t47 t48 t49) (hb:Below W.heap.size W W') (hg:g<N):InX B g N v n p0 G SV FV b L W' t9 t10 t37 t38 t39 t40 t41 t42 t43 t44 t45 t46 t47 t48 t49 where
 rd:=by obtain ⟨p3,h1,h2,h3⟩:=h.rd;exact ⟨p3,h1,h2,h3.keepb hb⟩
 s0:=h.s0
 s1:=h.s1
 s2:=h.s2
 s3:=h.s3
 s4:=h.s4
 s5:=fun e=>by have hx:Bx g W W':=Bx.of_below hb;exact (by obtain ⟨a0,a1,a2,a3,ow⟩:=h.s5 e;exact ⟨a0,a1,a2,a3,oX ow hx hg⟩)
 s6:=h.s6
 s7:=h.s7
 s8:=fun e=>by have hx:Bx g W W':=Bx.of_below hb;exact (by obtain ⟨a0,a1,a2,a3,ow⟩:=h.s8 e;exact ⟨a0,a1,a2,a3,oX ow hx hg⟩)
 s9:=fun e=>by have hx:Bx g W W':=Bx.of_below hb;exact (by obtain ⟨x,o,e1,an⟩:=h.s9 e;exact ⟨x,o,e1,an.move (fun z hz hl=>⟨hz,hx.block z hl (by have:=hz.1;omega)⟩) hx.size⟩)
 s10:=h.s10
 s11:=h.s11
 s12:=h.s12
 s13:=h.s13
 s14:=fun e=>by have hx:Bx g W W':=Bx.of_below hb;exact (by obtain ⟨q,k2,n2,e0,e1,e2,e3,o,h1,h2,h3,h4⟩:=h.s14 e;exact ⟨q,k2,n2,e0,e1,e2,e3,o,h1,h2,h3,h4.keepx hx (by omega)⟩)
 s15:=h.s15
 c10:=h.c10
 c11:=h.c11
 c12:=h.c12
 c14:=h.c14
 c15:=h.c15
 d:=h.d
 z:=fun e1 e2=>by obtain ⟨q,h1,h2,h3⟩:=h.z e1 e2;exact ⟨q,h1,h2,h3.keep hb⟩
theorem InX.put0 {u:Value} (h:InX B g N v n p0 G SV FV b L W t9 t10 t37 t38 t39 t40 t41 t42 t43 t44 t45 t46 t47 t48 t49) (hu:u=SV):InX B g N v n p0 G SV FV b (L.setIfInBounds 0 true) W t9 t10 t37 u t39 t40 t41 t42 t43 t44 t45 t46 t47 t48 t49 where
 rd:=by obtain ⟨p3,h1,h2,h3⟩:=h.rd;exact ⟨p3,h1,by rw [fN (i:=0) (j:=2) (by decide),fN (i:=0) (j:=5) (by decide),fN (i:=0) (j:=8) (by decide)];exact h2,h3⟩
 s0:=fun _=>hu
 s1:=fun e=>h.s1 (gS e)
 s2:=fun e=>h.s2 (gS e)
 s3:=fun e=>h.s3 (gS e)
 s4:=fun e=>h.s4 (gS e)
 s5:=fun e=>h.s5 (gS e)
 s6:=fun e=>h.s6 (gS e)
 s7:=fun e=>h.s7 (gS e)
 s8:=fun e=>h.s8 (gS e)
 s9:=fun e=>by obtain ⟨x,o,e1,an⟩:=h.s9 (gS e);exact ⟨x,o,e1,an.wk fun z hz _=>⟨hz.1,fun e=>hz.2 (gS e)⟩⟩
 s10:=fun e=>h.s10 (gS e)
 s11:=fun e=>h.s11 (gS e)
 s12:=fun e=>h.s12 (gS e)
 s13:=fun e=>h.s13 (gS e)
 s14:=fun e=>h.s14 (gS e)
 s15:=fun e=>h.s15 (gS e)
 c10:=fun e=>gU (h.c10 (gS e))
 c11:=fun e=>gU (h.c11 (gS e))
 c12:=fun e=>gU (h.c12 (gS e))
 c14:=fun e=>gU (h.c14 (gS e))
 c15:=fun e=>gU (h.c15 (gS e))
 d:=fun e=>gU (h.d (gS e))
 z:=fun e1 e2=>h.z (gS e1) (gT e2)
theorem InX.put1 {u:Value} (h:InX B g N v n p0 G SV FV b L W t9 t10 t37 t38 t39 t40 t41 t42 t43 t44 t45 t46 t47 t48 t49) (hu:u= .pointer (some ⟨g,0,none⟩)):InX B g N v n p0 G SV FV b (L.setIfInBounds 1 true) W t9 t10 t37 t38 u t40 t41 t42 t43 t44 t45 t46 t47 t48 t49 where
 rd:=by obtain ⟨p3,h1,h2,h3⟩:=h.rd;exact ⟨p3,h1,by rw [fN (i:=1) (j:=2) (by decide),fN (i:=1) (j:=5) (by decide),fN (i:=1) (j:=8) (by decide)];exact h2,h3⟩
 s1:=fun _=>hu
 s0:=fun e=>h.s0 (gS e)
 s2:=fun e=>h.s2 (gS e)
 s3:=fun e=>h.s3 (gS e)
 s4:=fun e=>h.s4 (gS e)
 s5:=fun e=>h.s5 (gS e)
 s6:=fun e=>h.s6 (gS e)
 s7:=fun e=>h.s7 (gS e)
 s8:=fun e=>h.s8 (gS e)
 s9:=fun e=>by obtain ⟨x,o,e1,an⟩:=h.s9 (gS e);exact ⟨x,o,e1,an.wk fun z hz _=>⟨hz.1,fun e=>hz.2 (gS e)⟩⟩
 s10:=fun e=>h.s10 (gS e)
 s11:=fun e=>h.s11 (gS e)
 s12:=fun e=>h.s12 (gS e)
 s13:=fun e=>h.s13 (gS e)
 s14:=fun e=>h.s14 (gS e)
 s15:=fun e=>h.s15 (gS e)
 c10:=fun e=>gU (h.c10 (gS e))
 c11:=fun e=>gU (h.c11 (gS e))
 c12:=fun e=>gU (h.c12 (gS e))
 c14:=fun e=>gU (h.c14 (gS e))
 c15:=fun e=>gU (h.c15 (gS e))
 d:=fun e=>gU (h.d (gS e))
 z:=fun e1 e2=>h.z (gS e1) (gT e2)
theorem InX.put2 {u:Value} {p3 p4:Int} (hg:g<N) (hLs:L.size=16) (hun:L.getD 2 true=false) (h:InX B g N v n p0 G SV FV b L W t9 t10 t37 t38 t39 t40 t41 t42 t43 t44 t45 t46 t47 t48 t49) (hx:Bx g W W') (h1:p0<=p3) (h2:p3<=p0+(fu (L.getD 2 false) 1+fu (L.getD 5 false) 600+fu (L.getD 8 false) 10)) (h3:p3<=p4) (h4:p4<=p3+1) (hr:Rd B W' g v n p4) (hu:∃ k:Int,u= .int .i64 k/\0<=k/\k<2):InX B g N v n p0 G SV FV b (L.setIfInBounds 2 true) W' t9 t10 t37 t38 t39 u t41 t42 t43 t44 t45 t46 t47 t48 t49 where
 rd:=⟨p4,by omega,by rw [fu_here (i:=2) (by omega),fN (i:=2) (j:=5) (by decide),fN (i:=2) (j:=8) (by decide)];rw [fu_no hun] at h2;omega,hr⟩
 s0:=fun e=>h.s0 (gS e)
 s1:=fun e=>h.s1 (gS e)
 s2:=fun _=>hu
 s3:=fun e=>h.s3 (gS e)
 s4:=fun e=>h.s4 (gS e)
 s5:=fun e=>(by obtain ⟨a0,a1,a2,a3,ow⟩:=h.s5 (gS e);exact ⟨a0,a1,a2,a3,oX ow hx hg⟩)
 s6:=fun e=>h.s6 (gS e)
 s7:=fun e=>h.s7 (gS e)
 s8:=fun e=>(by obtain ⟨a0,a1,a2,a3,ow⟩:=h.s8 (gS e);exact ⟨a0,a1,a2,a3,oX ow hx hg⟩)
 s9:=fun e=>by obtain ⟨x,o,e1,an⟩:=h.s9 (gS e);exact ⟨x,o,e1,an.move (fun z hz hl=>⟨⟨hz.1,fun e=>hz.2 (gS e)⟩,hx.block z hl (by have:=hz.1;omega)⟩) hx.size⟩
 s10:=fun e=>h.s10 (gS e)
 s11:=fun e=>h.s11 (gS e)
 s12:=fun e=>h.s12 (gS e)
 s13:=fun e=>h.s13 (gS e)
 s14:=fun e=>(by obtain ⟨q,k2,n2,e0,e1,e2,e3,o,h1,h2,h3,h4⟩:=h.s14 (gS e);exact ⟨q,k2,n2,e0,e1,e2,e3,o,h1,h2,h3,h4.keepx hx (by omega)⟩)
 s15:=fun e=>h.s15 (gS e)
 c10:=fun e=>gU (h.c10 (gS e))
 c11:=fun e=>gU (h.c11 (gS e))
 c12:=fun e=>gU (h.c12 (gS e))
 c14:=fun e=>gU (h.c14 (gS e))
 c15:=fun e=>gU (h.c15 (gS e))
 d:=fun e=>gU (h.d (gS e))
 z:=fun e1 e2=>by obtain ⟨q,h1,h2,h3⟩:=h.z (gS e1) (gT e2);exact ⟨q,h1,h2,h3.keepx hx (by omega)⟩
theorem InX.put3 {u:Value} (h:InX B g N v n p0 G SV FV b L W t9 t10 t37 t38 t39 t40 t41 t42 t43 t44 t45 t46 t47 t48 t49) (hu:u= .pointer (some ⟨g,0,none⟩)):InX B g N v n p0 G SV FV b (L.setIfInBounds 3 true) W t9 t10 t37 t38 t39 t40 u t42 t43 t44 t45 t46 t47 t48 t49 where
 rd:=by obtain ⟨p3,h1,h2,h3⟩:=h.rd;exact ⟨p3,h1,by rw [fN (i:=3) (j:=2) (by decide),fN (i:=3) (j:=5) (by decide),fN (i:=3) (j:=8) (by decide)];exact h2,h3⟩
 s3:=fun _=>hu
 s0:=fun e=>h.s0 (gS e)
 s1:=fun e=>h.s1 (gS e)
 s2:=fun e=>h.s2 (gS e)
 s4:=fun e=>h.s4 (gS e)
 s5:=fun e=>h.s5 (gS e)
 s6:=fun e=>h.s6 (gS e)
 s7:=fun e=>h.s7 (gS e)
 s8:=fun e=>h.s8 (gS e)
 s9:=fun e=>by obtain ⟨x,o,e1,an⟩:=h.s9 (gS e);exact ⟨x,o,e1,an.wk fun z hz _=>⟨hz.1,fun e=>hz.2 (gS e)⟩⟩
 s10:=fun e=>h.s10 (gS e)
 s11:=fun e=>h.s11 (gS e)
 s12:=fun e=>h.s12 (gS e)
 s13:=fun e=>h.s13 (gS e)
 s14:=fun e=>h.s14 (gS e)
 s15:=fun e=>h.s15 (gS e)
 c10:=fun e=>gU (h.c10 (gS e))
 c11:=fun e=>gU (h.c11 (gS e))
 c12:=fun e=>gU (h.c12 (gS e))
 c14:=fun e=>gU (h.c14 (gS e))
 c15:=fun e=>gU (h.c15 (gS e))
 d:=fun e=>gU (h.d (gS e))
 z:=fun e1 e2=>h.z (gS e1) (gT e2)
theorem InX.put4 {u:Value} (h:InX B g N v n p0 G SV FV b L W t9 t10 t37 t38 t39 t40 t41 t42 t43 t44 t45 t46 t47 t48 t49) (hu:u= .pointer (some ⟨g,0,none⟩)):InX B g N v n p0 G SV FV b (L.setIfInBounds 4 true) W t9 t10 t37 t38 t39 t40 t41 u t43 t44 t45 t46 t47 t48 t49 where
 rd:=by obtain ⟨p3,h1,h2,h3⟩:=h.rd;exact ⟨p3,h1,by rw [fN (i:=4) (j:=2) (by decide),fN (i:=4) (j:=5) (by decide),fN (i:=4) (j:=8) (by decide)];exact h2,h3⟩
 s4:=fun _=>hu
 s0:=fun e=>h.s0 (gS e)
 s1:=fun e=>h.s1 (gS e)
 s2:=fun e=>h.s2 (gS e)
 s3:=fun e=>h.s3 (gS e)
 s5:=fun e=>h.s5 (gS e)
 s6:=fun e=>h.s6 (gS e)
 s7:=fun e=>h.s7 (gS e)
 s8:=fun e=>h.s8 (gS e)
 s9:=fun e=>by obtain ⟨x,o,e1,an⟩:=h.s9 (gS e);exact ⟨x,o,e1,an.wk fun z hz _=>⟨hz.1,fun e=>hz.2 (gS e)⟩⟩
 s10:=fun e=>h.s10 (gS e)
 s11:=fun e=>h.s11 (gS e)
 s12:=fun e=>h.s12 (gS e)
 s13:=fun e=>h.s13 (gS e)
 s14:=fun e=>h.s14 (gS e)
 s15:=fun e=>h.s15 (gS e)
 c10:=fun e=>gU (h.c10 (gS e))
 c11:=fun e=>gU (h.c11 (gS e))
 c12:=fun e=>gU (h.c12 (gS e))
 c14:=fun e=>gU (h.c14 (gS e))
 c15:=fun e=>gU (h.c15 (gS e))
 d:=fun e=>gU (h.d (gS e))
 z:=fun e1 e2=>h.z (gS e1) (gT e2)
theorem InX.put5 {u:Value} {p3 p4:Int} (hg:g<N) (hLs:L.size=16) (hun:L.getD 5 true=false) (h:InX B g N v n p0 G SV FV b L W t9 t10 t37 t38 t39 t40 t41 t42 t43 t44 t45 t46 t47 t48 t49) (hx:Bx g W W') (h1:p0<=p3) (h2:p3<=p0+(fu (L.getD 2 false) 1+fu (L.getD 5 false) 600+fu (L.getD 8 false) 10)) (h3:p3<=p4) (h4:p4<=p3+600) (hr:Rd B W' g v n p4) (hu:∃ l:List Rw,l.length<=10/\absum l<=9/\bokB l=true/\OwnR W' N u l):InX B g N v n p0 G SV FV b (L.setIfInBounds 5 true) W' t9 t10 t37 t38 t39 t40 t41 t42 u t44 t45 t46 t47 t48 t49 where
 rd:=⟨p4,by omega,by rw [fN (i:=5) (j:=2) (by decide),fu_here (i:=5) (by omega),fN (i:=5) (j:=8) (by decide)];rw [fu_no hun] at h2;omega,hr⟩
 s0:=fun e=>h.s0 (gS e)
 s1:=fun e=>h.s1 (gS e)
 s2:=fun e=>h.s2 (gS e)
 s3:=fun e=>h.s3 (gS e)
 s4:=fun e=>h.s4 (gS e)
 s5:=fun _=>hu
 s6:=fun e=>h.s6 (gS e)
 s7:=fun e=>h.s7 (gS e)
 s8:=fun e=>(by obtain ⟨a0,a1,a2,a3,ow⟩:=h.s8 (gS e);exact ⟨a0,a1,a2,a3,oX ow hx hg⟩)
 s9:=fun e=>by obtain ⟨x,o,e1,an⟩:=h.s9 (gS e);exact ⟨x,o,e1,an.move (fun z hz hl=>⟨⟨hz.1,fun e=>hz.2 (gS e)⟩,hx.block z hl (by have:=hz.1;omega)⟩) hx.size⟩
 s10:=fun e=>h.s10 (gS e)
 s11:=fun e=>h.s11 (gS e)
 s12:=fun e=>h.s12 (gS e)
 s13:=fun e=>h.s13 (gS e)
 s14:=fun e=>(by obtain ⟨q,k2,n2,e0,e1,e2,e3,o,h1,h2,h3,h4⟩:=h.s14 (gS e);exact ⟨q,k2,n2,e0,e1,e2,e3,o,h1,h2,h3,h4.keepx hx (by omega)⟩)
 s15:=fun e=>h.s15 (gS e)
 c10:=fun e=>gU (h.c10 (gS e))
 c11:=fun e=>gU (h.c11 (gS e))
 c12:=fun e=>gU (h.c12 (gS e))
 c14:=fun e=>gU (h.c14 (gS e))
 c15:=fun e=>gU (h.c15 (gS e))
 d:=fun e=>gU (h.d (gS e))
 z:=fun e1 e2=>by obtain ⟨q,h1,h2,h3⟩:=h.z (gS e1) (gT e2);exact ⟨q,h1,h2,h3.keepx hx (by omega)⟩
theorem InX.put6 {u:Value} (h:InX B g N v n p0 G SV FV b L W t9 t10 t37 t38 t39 t40 t41 t42 t43 t44 t45 t46 t47 t48 t49) (hu:u= .pointer (some ⟨b,4,none⟩)):InX B g N v n p0 G SV FV b (L.setIfInBounds 6 true) W t9 t10 t37 t38 t39 t40 t41 t42 t43 u t45 t46 t47 t48 t49 where
 rd:=by obtain ⟨p3,h1,h2,h3⟩:=h.rd;exact ⟨p3,h1,by rw [fN (i:=6) (j:=2) (by decide),fN (i:=6) (j:=5) (by decide),fN (i:=6) (j:=8) (by decide)];exact h2,h3⟩
 s6:=fun _=>hu
 s0:=fun e=>h.s0 (gS e)
 s1:=fun e=>h.s1 (gS e)
 s2:=fun e=>h.s2 (gS e)
 s3:=fun e=>h.s3 (gS e)
 s4:=fun e=>h.s4 (gS e)
 s5:=fun e=>h.s5 (gS e)
 s7:=fun e=>h.s7 (gS e)
 s8:=fun e=>h.s8 (gS e)
 s9:=fun e=>by obtain ⟨x,o,e1,an⟩:=h.s9 (gS e);exact ⟨x,o,e1,an.wk fun z hz _=>⟨hz.1,fun e=>hz.2 (gS e)⟩⟩
 s10:=fun e=>h.s10 (gS e)
 s11:=fun e=>h.s11 (gS e)
 s12:=fun e=>h.s12 (gS e)
 s13:=fun e=>h.s13 (gS e)
 s14:=fun e=>h.s14 (gS e)
 s15:=fun e=>h.s15 (gS e)
 c10:=fun e=>gU (h.c10 (gS e))
 c11:=fun e=>gU (h.c11 (gS e))
 c12:=fun e=>gU (h.c12 (gS e))
 c14:=fun e=>gU (h.c14 (gS e))
 c15:=fun e=>gU (h.c15 (gS e))
 d:=fun e=>gU (h.d (gS e))
 z:=fun e1 e2=>h.z (gS e1) (gT e2)
theorem InX.put7 {u:Value} (h:InX B g N v n p0 G SV FV b L W t9 t10 t37 t38 t39 t40 t41 t42 t43 t44 t45 t46 t47 t48 t49) (hu:u=FV):InX B g N v n p0 G SV FV b (L.setIfInBounds 7 true) W t9 t10 t37 t38 t39 t40 t41 t42 t43 t44 u t46 t47 t48 t49 where
 rd:=by obtain ⟨p3,h1,h2,h3⟩:=h.rd;exact ⟨p3,h1,by rw [fN (i:=7) (j:=2) (by decide),fN (i:=7) (j:=5) (by decide),fN (i:=7) (j:=8) (by decide)];exact h2,h3⟩
 s7:=fun _=>hu
 s0:=fun e=>h.s0 (gS e)
 s1:=fun e=>h.s1 (gS e)
 s2:=fun e=>h.s2 (gS e)
 s3:=fun e=>h.s3 (gS e)
 s4:=fun e=>h.s4 (gS e)
 s5:=fun e=>h.s5 (gS e)
 s6:=fun e=>h.s6 (gS e)
 s8:=fun e=>h.s8 (gS e)
 s9:=fun e=>by obtain ⟨x,o,e1,an⟩:=h.s9 (gS e);exact ⟨x,o,e1,an.wk fun z hz _=>⟨hz.1,fun e=>hz.2 (gS e)⟩⟩
 s10:=fun e=>h.s10 (gS e)
 s11:=fun e=>h.s11 (gS e)
 s12:=fun e=>h.s12 (gS e)
 s13:=fun e=>h.s13 (gS e)
 s14:=fun e=>h.s14 (gS e)
 s15:=fun e=>h.s15 (gS e)
 c10:=fun e=>gU (h.c10 (gS e))
 c11:=fun e=>gU (h.c11 (gS e))
 c12:=fun e=>gU (h.c12 (gS e))
 c14:=fun e=>gU (h.c14 (gS e))
 c15:=fun e=>gU (h.c15 (gS e))
 d:=fun e=>gU (h.d (gS e))
 z:=fun e1 e2=>h.z (gS e1) (gT e2)
theorem InX.put8 {u:Value} {p3 p4:Int} (hg:g<N) (hLs:L.size=16) (hun:L.getD 8 true=false) (h:InX B g N v n p0 G SV FV b L W t9 t10 t37 t38 t39 t40 t41 t42 t43 t44 t45 t46 t47 t48 t49) (hx:Bx g W W') (h1:p0<=p3) (h2:p3<=p0+(fu (L.getD 2 false) 1+fu (L.getD 5 false) 600+fu (L.getD 8 false) 10)) (h3:p3<=p4) (h4:p4<=p3+10) (hr:Rd B W' g v n p4) (hu:∃ l:List Rw,l.length<=10/\absum l<=9/\bokB l=true/\OwnR W' N u l):InX B g N v n p0 G SV FV b (L.setIfInBounds 8 true) W' t9 t10 t37 t38 t39 t40 t41 t42 t43 t44 t45 u t47 t48 t49 where
 rd:=⟨p4,by omega,by rw [fN (i:=8) (j:=2) (by decide),fN (i:=8) (j:=5) (by decide),fu_here (i:=8) (by omega)];rw [fu_no hun] at h2;omega,hr⟩
 s0:=fun e=>h.s0 (gS e)
 s1:=fun e=>h.s1 (gS e)
 s2:=fun e=>h.s2 (gS e)
 s3:=fun e=>h.s3 (gS e)
 s4:=fun e=>h.s4 (gS e)
 s5:=fun e=>(by obtain ⟨a0,a1,a2,a3,ow⟩:=h.s5 (gS e);exact ⟨a0,a1,a2,a3,oX ow hx hg⟩)
 s6:=fun e=>h.s6 (gS e)
 s7:=fun e=>h.s7 (gS e)
 s8:=fun _=>hu
 s9:=fun e=>by obtain ⟨x,o,e1,an⟩:=h.s9 (gS e);exact ⟨x,o,e1,an.move (fun z hz hl=>⟨⟨hz.1,fun e=>hz.2 (gS e)⟩,hx.block z hl (by have:=hz.1;omega)⟩) hx.size⟩
 s10:=fun e=>h.s10 (gS e)
 s11:=fun e=>h.s11 (gS e)
 s12:=fun e=>h.s12 (gS e)
 s13:=fun e=>h.s13 (gS e)
 s14:=fun e=>(by obtain ⟨q,k2,n2,e0,e1,e2,e3,o,h1,h2,h3,h4⟩:=h.s14 (gS e);exact ⟨q,k2,n2,e0,e1,e2,e3,o,h1,h2,h3,h4.keepx hx (by omega)⟩)
 s15:=fun e=>h.s15 (gS e)
 c10:=fun e=>gU (h.c10 (gS e))
 c11:=fun e=>gU (h.c11 (gS e))
 c12:=fun e=>gU (h.c12 (gS e))
 c14:=fun e=>gU (h.c14 (gS e))
 c15:=fun e=>gU (h.c15 (gS e))
 d:=fun e=>gU (h.d (gS e))
 z:=fun e1 e2=>by obtain ⟨q,h1,h2,h3⟩:=h.z (gS e1) (gT e2);exact ⟨q,h1,h2,h3.keepx hx (by omega)⟩
theorem InX.put9 {u:Value} (hL:L.getD 9 false=true->False) (h:InX B g N v n p0 G SV FV b L W t9 t10 t37 t38 t39 t40 t41 t42 t43 t44 t45 t46 t47 t48 t49) (hu:∃ x o:Value,u= .tuple #[x,o]/\AnsX G W (fun z=>N<=z/\(L.getD 13 false=true->t9≠ .pointer (some ⟨z,0,none⟩))) x o):InX B g N v n p0 G SV FV b (L.setIfInBounds 9 true) W t9 t10 t37 t38 t39 t40 t41 t42 t43 t44 t45 t46 u t48 t49 where
 rd:=by obtain ⟨p3,h1,h2,h3⟩:=h.rd;exact ⟨p3,h1,by rw [fN (i:=9) (j:=2) (by decide),fN (i:=9) (j:=5) (by decide),fN (i:=9) (j:=8) (by decide)];exact h2,h3⟩
 s9:=fun _=>by obtain ⟨x,o,e1,an⟩:=hu;exact ⟨x,o,e1,an.wk fun z hz _=>⟨hz.1,fun e=>hz.2 (gS e)⟩⟩
 s0:=fun e=>h.s0 (gS e)
 s1:=fun e=>h.s1 (gS e)
 s2:=fun e=>h.s2 (gS e)
 s3:=fun e=>h.s3 (gS e)
 s4:=fun e=>h.s4 (gS e)
 s5:=fun e=>h.s5 (gS e)
 s6:=fun e=>h.s6 (gS e)
 s7:=fun e=>h.s7 (gS e)
 s8:=fun e=>h.s8 (gS e)
 s10:=fun e=>(hL (h.c10 (gS e))).elim
 s11:=fun e=>(hL (h.c11 (gS e))).elim
 s12:=fun e=>(hL (h.c12 (gS e))).elim
 s13:=fun e=>h.s13 (gS e)
 s14:=fun e=>(hL (h.c14 (gS e))).elim
 s15:=fun e=>(hL (h.c15 (gS e))).elim
 c10:=fun e=>gU (h.c10 (gS e))
 c11:=fun e=>gU (h.c11 (gS e))
 c12:=fun e=>gU (h.c12 (gS e))
 c14:=fun e=>gU (h.c14 (gS e))
 c15:=fun e=>gU (h.c15 (gS e))
 d:=fun e=>gU (h.d (gS e))
 z:=fun e1 e2=>h.z (gS e1) (gT e2)
theorem InX.put10 {u:Value} (hl:L.getD 9 false=true) (h:InX B g N v n p0 G SV FV b L W t9 t10 t37 t38 t39 t40 t41 t42 t43 t44 t45 t46 t47 t48 t49) (hu:u=t47):InX B g N v n p0 G SV FV b (L.setIfInBounds 10 true) W t9 t10 u t38 t39 t40 t41 t42 t43 t44 t45 t46 t47 t48 t49 where
 rd:=by obtain ⟨p3,h1,h2,h3⟩:=h.rd;exact ⟨p3,h1,by rw [fN (i:=10) (j:=2) (by decide),fN (i:=10) (j:=5) (by decide),fN (i:=10) (j:=8) (by decide)];exact h2,h3⟩
 s10:=fun _=>hu
 s0:=fun e=>h.s0 (gS e)
 s1:=fun e=>h.s1 (gS e)
 s2:=fun e=>h.s2 (gS e)
 s3:=fun e=>h.s3 (gS e)
 s4:=fun e=>h.s4 (gS e)
 s5:=fun e=>h.s5 (gS e)
 s6:=fun e=>h.s6 (gS e)
 s7:=fun e=>h.s7 (gS e)
 s8:=fun e=>h.s8 (gS e)
 s9:=fun e=>by obtain ⟨x,o,e1,an⟩:=h.s9 (gS e);exact ⟨x,o,e1,an.wk fun z hz _=>⟨hz.1,fun e=>hz.2 (gS e)⟩⟩
 s11:=fun e=>h.s11 (gS e)
 s12:=fun e=>h.s12 (gS e)
 s13:=fun e=>h.s13 (gS e)
 s14:=fun e=>h.s14 (gS e)
 s15:=fun e=>h.s15 (gS e)
 c10:=fun e=>gU (hl)
 c11:=fun e=>gU (h.c11 (gS e))
 c12:=fun e=>gU (h.c12 (gS e))
 c14:=fun e=>gU (h.c14 (gS e))
 c15:=fun e=>gU (h.c15 (gS e))
 d:=fun e=>gU (h.d (gS e))
 z:=fun e1 e2=>h.z (gS e1) (gT e2)
theorem InX.put11 {u:Value} (hl:L.getD 9 false=true) (h:InX B g N v n p0 G SV FV b L W t9 t10 t37 t38 t39 t40 t41 t42 t43 t44 t45 t46 t47 t48 t49) (hu:∃ x o:Value,t47= .tuple #[x,o]/\u=x):InX B g N v n p0 G SV FV b (L.setIfInBounds 11 true) W t9 t10 t37 t38 t39 t40 t41 t42 t43 t44 t45 t46 t47 u t49 where
 rd:=by obtain ⟨p3,h1,h2,h3⟩:=h.rd;exact ⟨p3,h1,by rw [fN (i:=11) (j:=2) (by decide),fN (i:=11) (j:=5) (by decide),fN (i:=11) (j:=8) (by decide)];exact h2,h3⟩
 s11:=fun _=>hu
 s0:=fun e=>h.s0 (gS e)
 s1:=fun e=>h.s1 (gS e)
 s2:=fun e=>h.s2 (gS e)
 s3:=fun e=>h.s3 (gS e)
 s4:=fun e=>h.s4 (gS e)
 s5:=fun e=>h.s5 (gS e)
 s6:=fun e=>h.s6 (gS e)
 s7:=fun e=>h.s7 (gS e)
 s8:=fun e=>h.s8 (gS e)
 s9:=fun e=>by obtain ⟨x,o,e1,an⟩:=h.s9 (gS e);exact ⟨x,o,e1,an.wk fun z hz _=>⟨hz.1,fun e=>hz.2 (gS e)⟩⟩
 s10:=fun e=>h.s10 (gS e)
 s12:=fun e=>h.s12 (gS e)
 s13:=fun e=>h.s13 (gS e)
 s14:=fun e=>h.s14 (gS e)
 s15:=fun e=>h.s15 (gS e)
 c10:=fun e=>gU (h.c10 (gS e))
 c11:=fun e=>gU (hl)
 c12:=fun e=>gU (h.c12 (gS e))
 c14:=fun e=>gU (h.c14 (gS e))
 c15:=fun e=>gU (h.c15 (gS e))
 d:=fun e=>gU (h.d (gS e))
 z:=fun e1 e2=>h.z (gS e1) (gT e2)
theorem InX.put12 {u:Value} (hl:L.getD 9 false=true) (h:InX B g N v n p0 G SV FV b L W t9 t10 t37 t38 t39 t40 t41 t42 t43 t44 t45 t46 t47 t48 t49) (hu:∃ x o:Value,t47= .tuple #[x,o]/\u=o):InX B g N v n p0 G SV FV b (L.setIfInBounds 12 true) W t9 t10 t37 t38 t39 t40 t41 t42 t43 t44 t45 t46 t47 t48 u where
 rd:=by obtain ⟨p3,h1,h2,h3⟩:=h.rd;exact ⟨p3,h1,by rw [fN (i:=12) (j:=2) (by decide),fN (i:=12) (j:=5) (by decide),fN (i:=12) (j:=8) (by decide)];exact h2,h3⟩
 s12:=fun _=>hu
 s0:=fun e=>h.s0 (gS e)
 s1:=fun e=>h.s1 (gS e)
 s2:=fun e=>h.s2 (gS e)
 s3:=fun e=>h.s3 (gS e)
 s4:=fun e=>h.s4 (gS e)
 s5:=fun e=>h.s5 (gS e)
 s6:=fun e=>h.s6 (gS e)
 s7:=fun e=>h.s7 (gS e)
 s8:=fun e=>h.s8 (gS e)
 s9:=fun e=>by obtain ⟨x,o,e1,an⟩:=h.s9 (gS e);exact ⟨x,o,e1,an.wk fun z hz _=>⟨hz.1,fun e=>hz.2 (gS e)⟩⟩
 s10:=fun e=>h.s10 (gS e)
 s11:=fun e=>h.s11 (gS e)
 s13:=fun e=>h.s13 (gS e)
 s14:=fun e=>h.s14 (gS e)
 s15:=fun e=>h.s15 (gS e)
 c10:=fun e=>gU (h.c10 (gS e))
 c11:=fun e=>gU (h.c11 (gS e))
 c12:=fun e=>gU (hl)
 c14:=fun e=>gU (h.c14 (gS e))
 c15:=fun e=>gU (h.c15 (gS e))
 d:=fun e=>gU (h.d (gS e))
 z:=fun e1 e2=>h.z (gS e1) (gT e2)
theorem InX.put13 (hLs:L.size=16) (hun:L.getD 13 true=false) (h0:InX B g N v n p0 G SV FV b L W t9 t10 t37 t38 t39 t40 t41 t42 t43 t44 t45 t46 t47 t48 t49) (hN:N<=W.heap.size) (hg:g<N) (hb:Below W.heap.size W W') (hb':Bk W' W.heap.size #[.int .i64 0, .int .i64 0, .slice none 0 0, .slice none 0 0, .slice none 0 0, .slice none 0 0] 30):InX B g N v n p0 G SV FV b (L.setIfInBounds 13 true) W' (.pointer (some ⟨W.heap.size,0,none⟩)) t10 t37 t38 t39 t40 t41 t42 t43 t44 t45 t46 t47 t48 t49:=by
 have h:=h0.keep hb hg;exact {
  rd:=by obtain ⟨p3,h1,h2,h3⟩:=h.rd;exact ⟨p3,h1,by rw [fN (i:=13) (j:=2) (by decide),fN (i:=13) (j:=5) (by decide),fN (i:=13) (j:=8) (by decide)];exact h2,h3⟩,
  s0:=fun e=>h.s0 (gS e),
  s1:=fun e=>h.s1 (gS e),
  s2:=fun e=>h.s2 (gS e),
  s3:=fun e=>h.s3 (gS e),
  s4:=fun e=>h.s4 (gS e),
  s5:=fun e=>h.s5 (gS e),
  s6:=fun e=>h.s6 (gS e),
  s7:=fun e=>h.s7 (gS e),
  s8:=fun e=>h.s8 (gS e),
  s9:=fun e=>by obtain ⟨x,o,e1,an⟩:=h0.s9 (gS e);exact ⟨x,o,e1,an.move (fun z hz hl=>⟨⟨hz.1,fun _ e=>by have:=congrArg Addr.block (Option.some.inj (Value.pointer.inj e));simp at this;omega⟩,hb.block z hl⟩) hb.size⟩,
  s10:=fun e=>h.s10 (gS e),
  s11:=fun e=>h.s11 (gS e),
  s12:=fun e=>h.s12 (gS e),
  s13:=fun _=>⟨_,rfl,hN⟩,
  s14:=fun e=>(gN (h.d (gS e)) hun).elim,
  s15:=fun e=>h.s15 (gS e),
  c10:=fun e=>gU (h.c10 (gS e)),
  c11:=fun e=>gU (h.c11 (gS e)),
  c12:=fun e=>gU (h.c12 (gS e)),
  c14:=fun e=>gU (h.c14 (gS e)),
  c15:=fun e=>gU (h.c15 (gS e)),
  d:=fun _=>gH (by omega),
  z:=fun _ _=>⟨_,rfl,hN,hb'⟩ }
theorem InX.put14 {q:Nat} {k2 n2:Int} {e0 e1 e2 e3 o:Value} (hLs:L.size=16) (hl:L.getD 9 false=true) (hl9:L.getD 13 false=true) (h:InX B g N v n p0 G SV FV b L W t9 t10 t37 t38 t39 t40 t41 t42 t43 t44 t45 t46 t47 t48 t49) (eb:t9= .pointer (some ⟨q,0,none⟩)) (hN:N<=q) (ea:t47= .tuple #[sv k2 n2 e0 e1 e2 e3,o]) (hq:Bk W q #[.int .i64 0, .int .i64 0, .slice none 0 0, .slice none 0 0, .slice none 0 0, .slice none 0 0] 30) (hx:∀ x,x≠q->W'.heap[x]?=W.heap[x]?) (hsz:W'.heap.size=W.heap.size) (hr:∀ p3,Rd B W g v n p3->Rd B W' g v n p3) (hu:Bk W' q #[.int .i64 k2, .int .i64 n2,e0,e1,e2,e3] 30):InX B g N v n p0 G SV FV b (L.setIfInBounds 14 true) W' t9 t10 t37 t38 t39 t40 t41 t42 t43 t44 t45 t46 t47 t48 t49 where
 rd:=by obtain ⟨p3,h1,h2,h3⟩:=h.rd;exact ⟨p3,h1,by rw [fN (i:=14) (j:=2) (by decide),fN (i:=14) (j:=5) (by decide),fN (i:=14) (j:=8) (by decide)];exact h2,hr p3 h3⟩
 s0:=fun e=>h.s0 (gS e)
 s1:=fun e=>h.s1 (gS e)
 s2:=fun e=>h.s2 (gS e)
 s3:=fun e=>h.s3 (gS e)
 s4:=fun e=>h.s4 (gS e)
 s5:=fun e=>(by obtain ⟨a0,a1,a2,a3,ow⟩:=h.s5 (gS e);exact ⟨a0,a1,a2,a3,oAz ow fun z e=>hx z (by obtain ⟨d,hd⟩:=ownR_cells ow e;exact bK hd hq (by decide))⟩)
 s6:=fun e=>h.s6 (gS e)
 s7:=fun e=>h.s7 (gS e)
 s8:=fun e=>(by obtain ⟨a0,a1,a2,a3,ow⟩:=h.s8 (gS e);exact ⟨a0,a1,a2,a3,oAz ow fun z e=>hx z (by obtain ⟨d,hd⟩:=ownR_cells ow e;exact bK hd hq (by decide))⟩)
 s9:=fun e=>(by obtain ⟨x,o,e1,an⟩:=h.s9 (gS e);exact ⟨x,o,e1,an.move (fun z hz hl=>⟨⟨hz.1,fun _=>hz.2 hl9⟩,hx z fun e=>hz.2 hl9 (by rw [eb,e])⟩) (Nat.le_of_eq hsz.symm)⟩)
 s10:=fun e=>h.s10 (gS e)
 s11:=fun e=>h.s11 (gS e)
 s12:=fun e=>h.s12 (gS e)
 s13:=fun e=>h.s13 (gS e)
 s14:=fun _=>⟨q,k2,n2,e0,e1,e2,e3,o,eb,hN,ea,hu⟩
 s15:=fun e=>h.s15 (gS e)
 c10:=fun e=>gU (h.c10 (gS e))
 c11:=fun e=>gU (h.c11 (gS e))
 c12:=fun e=>gU (h.c12 (gS e))
 c14:=fun e=>gU (hl)
 c15:=fun e=>gU (h.c15 (gS e))
 d:=fun _=>gU hl9
 z:=fun _ e2=>absurd e2 (by rw [gH (by omega)];decide)
theorem InX.put15 {u:Value} (hl:L.getD 9 false=true) (h:InX B g N v n p0 G SV FV b L W t9 t10 t37 t38 t39 t40 t41 t42 t43 t44 t45 t46 t47 t48 t49) (hu:∃ x o:Value,t47= .tuple #[x,o]/\u=o):InX B g N v n p0 G SV FV b (L.setIfInBounds 15 true) W t9 u t37 t38 t39 t40 t41 t42 t43 t44 t45 t46 t47 t48 t49 where
 rd:=by obtain ⟨p3,h1,h2,h3⟩:=h.rd;exact ⟨p3,h1,by rw [fN (i:=15) (j:=2) (by decide),fN (i:=15) (j:=5) (by decide),fN (i:=15) (j:=8) (by decide)];exact h2,h3⟩
 s15:=fun _=>hu
 s0:=fun e=>h.s0 (gS e)
 s1:=fun e=>h.s1 (gS e)
 s2:=fun e=>h.s2 (gS e)
 s3:=fun e=>h.s3 (gS e)
 s4:=fun e=>h.s4 (gS e)
 s5:=fun e=>h.s5 (gS e)
 s6:=fun e=>h.s6 (gS e)
 s7:=fun e=>h.s7 (gS e)
 s8:=fun e=>h.s8 (gS e)
 s9:=fun e=>by obtain ⟨x,o,e1,an⟩:=h.s9 (gS e);exact ⟨x,o,e1,an.wk fun z hz _=>⟨hz.1,fun e=>hz.2 (gS e)⟩⟩
 s10:=fun e=>h.s10 (gS e)
 s11:=fun e=>h.s11 (gS e)
 s12:=fun e=>h.s12 (gS e)
 s13:=fun e=>h.s13 (gS e)
 s14:=fun e=>h.s14 (gS e)
 c10:=fun e=>gU (h.c10 (gS e))
 c11:=fun e=>gU (h.c11 (gS e))
 c12:=fun e=>gU (h.c12 (gS e))
 c14:=fun e=>gU (h.c14 (gS e))
 c15:=fun e=>gU (hl)
 d:=fun e=>gU (h.d (gS e))
 z:=fun e1 e2=>h.z (gS e1) (gT e2)
theorem InX.fin (h:InX B g N v n p0 G SV FV b L W t9 t10 t37 t38 t39 t40 t41 t42 t43 t44 t45 t46 t47 t48 t49) (hall:∀ j,j<16->L.getD j false=true):SeX B g N v n p0 (611) G W t9 t10:=by
 obtain ⟨p3,h1,h2,h3⟩:=h.rd;rw [hall 2 (by omega),hall 5 (by omega),hall 8 (by omega)] at h2;obtain ⟨x,o,ea,an⟩:=h.s9 (hall 9 (by omega));obtain ⟨q,k2,n2,e0,e1,e2,e3,o',eb,hN,ea',bq⟩:=h.s14 (hall 14 (by omega));obtain ⟨x2,o2,ea2,eo⟩:=h.s15 (hall 15 (by omega));rw [ea] at ea' ea2;simp only [Value.tuple.injEq,Array.mk.injEq,List.cons.injEq,and_true] at ea' ea2;obtain ⟨rfl,rfl⟩:=ea';obtain ⟨rfl,rfl⟩:=ea2;exact ⟨q,k2,n2,e0,e1,e2,e3,p3,eb,hN,bq,by rw [eo];exact an.wk fun z hz _=>⟨hz.1,fun e=>hz.2 (hall 13 (by omega)) (by rw [eb,e])⟩,h1,by simp only [fu] at h2;omega,h3⟩
end
def InXI (B g N:Nat) (v:Value) (n:Nat) (p0:Int) (G:SS->Prop) (SV FV:Value) (b:Nat) (f0 f1 y1 y4 y11 y12 y13 y14 y15 y16 y17 y18 y52 y53 y54 y55 y56 y57 y58 y59 y60 y61 y62 y63 y64 y65 y66 y67 y68 y69 y70 y71 y72 y73 y74 y75 y76 y77 y78 y79 y80 y81 y82:Value) (W0:World) (L:Array Bool) (a:Act) (W:World):Prop :=
 L.size=16/\Bx g W0 W/\∃ z6 z7 z8 z19 z20 z21 z22 z23 z24 z25 z26 z27 z28 z29 z30 z31 z32 z33 z34 z35 z36 z50 z51 t9 t10 t37 t38 t39 t40 t41 t42 t43 t44 t45 t46 t47 t48 t49:Value,
  a={ tmps:=#[.pointer (some ⟨g,0,none⟩),y1,f0, .pointer (some ⟨b,0,none⟩),y4,f1,z6,z7,z8,t9,t10,y11,y12,y13,y14,y15,y16,y17,y18,z19,z20,z21,z22,z23,z24,z25,z26,z27,z28,z29,z30,z31,z32,z33,z34,z35,z36,t37,t38,t39,t40,t41,t42,t43,t44,t45,t46,t47,t48,t49,z50,z51,y52,y53,y54,y55,y56,y57,y58,y59,y60,y61,y62,y63,y64,y65,y66,y67,y68,y69,y70,y71,y72,y73,y74,y75,y76,y77,y78,y79,y80,y81,y82],defers:=[] }/\InX B g N v n p0 G SV FV b L W t9 t10 t37 t38 t39 t40 t41 t42 t43 t44 t45 t46 t47 t48 t49
theorem InXI_next {B g N:Nat} {v:Value} {n:Nat} {p0:Int} {G:SS->Prop} {SV FV:Value} {b:Nat} {f0 f1 y1 y4 y11 y12 y13 y14 y15 y16 y17 y18 y52 y53 y54 y55 y56 y57 y58 y59 y60 y61 y62 y63 y64 y65 y66 y67 y68 y69 y70 y71 y72 y73 y74 y75 y76 y77 y78 y79 y80 y81 y82:Value} {L:Array Bool} {W':World} {t9 t10 t37 t38 t39 t40 t41 t42 t43 t44 t45 t46 t47 t48 t49:Value} {i:Nat} {W0:World} {z6 z7 z8 z19 z20 z21 z22 z23 z24 z25 z26 z27 z28 z29 z30 z31 z32 z33 z34 z35 z36 z50 z51:Value} (hLs:L.size=16) (hx:Bx g W0 W') (S:InX B g N v n p0 G SV FV b (L.setIfInBounds i true) W' t9 t10 t37 t38 t39 t40 t41 t42 t43 t44 t45 t46 t47 t48 t49) :
  InXI B g N v n p0 G SV FV b f0 f1 y1 y4 y11 y12 y13 y14 y15 y16 y17 y18 y52 y53 y54 y55 y56 y57 y58 y59 y60 y61 y62 y63 y64 y65 y66 y67 y68 y69 y70 y71 y72 y73 y74 y75 y76 y77 y78 y79 y80 y81 y82 W0 (L.setIfInBounds i true) { tmps:=#[.pointer (some ⟨g,0,none⟩),y1,f0, .pointer (some ⟨b,0,none⟩),y4,f1,z6,z7,z8,t9,t10,y11,y12,y13,y14,y15,y16,y17,y18,z19,z20,z21,z22,z23,z24,z25,z26,z27,z28,z29,z30,z31,z32,z33,z34,z35,z36,t37,t38,t39,t40,t41,t42,t43,t44,t45,t46,t47,t48,t49,z50,z51,y52,y53,y54,y55,y56,y57,y58,y59,y60,y61,y62,y63,y64,y65,y66,y67,y68,y69,y70,y71,y72,y73,y74,y75,y76,y77,y78,y79,y80,y81,y82],defers:=[] } W' :=
 ⟨by simp [hLs],hx,_,_,_,_,_,_,_,_,_,_,_,_,_,_,_,_,_,_,_,_,_,_,_,_,_,_,_,_,_,_,_,_,_,_,_,_,_,_,rfl,S⟩
structure AtX (B g N:Nat) (v:Value) (n:Nat) (p0:Int) (G:SS->Prop) (SV FV:Value) (b:Nat) (L:Array Bool) (W:World) (t8 t9 t10 t33 t34 t35 t36 t37 t38 t39 t40 t41 t42 t43 t44 t45 t46 t47 t48:Value):Prop where
 rd:∃ p3:Int,p0<=p3/\p3<=p0+(fu (L.getD 4 false) 1+fu (L.getD 7 false) 1)/\Rd B W g v n p3
 s0:L.getD 0 false=true->t34=SV
 s1:L.getD 1 false=true->t35= .pointer (some ⟨b,4,none⟩)
 s2:L.getD 2 false=true->t36=FV
 s3:L.getD 3 false=true->t37= .pointer (some ⟨g,0,none⟩)
 s4:L.getD 4 false=true->∃ k:Int,t38= .int .i64 k/\0<=k/\k<4
 s5:L.getD 5 false=true->∃ k:Int,t39= .int .i64 k
 s6:L.getD 6 false=true->t40= .pointer (some ⟨g,0,none⟩)
 s7:L.getD 7 false=true->∃ k:Int,t41= .int .i64 k/\0<=k/\k<3
 s8:L.getD 8 false=true->∃ x y:Int,t42=tv x y
 s9:L.getD 9 false=true->∃ f:LI,f.length<=1000/\Own W N t43 f
 s10:L.getD 10 false=true->∃ f:LI,f.length<=1000/\Own W N t44 f
 s11:L.getD 11 false=true->∃ x m o:Value,t45= .tuple #[x,m,o]/\AnsX G W (fun z=>N<=z/\(L.getD 16 false=true->t8≠ .pointer (some ⟨z,0,none⟩))) x o
 s12:L.getD 12 false=true->t33=t45
 s13:L.getD 13 false=true->∃ x m o:Value,t45= .tuple #[x,m,o]/\t46=x
 s14:L.getD 14 false=true->∃ x m o:Value,t45= .tuple #[x,m,o]/\t47=m
 s15:L.getD 15 false=true->∃ x m o:Value,t45= .tuple #[x,m,o]/\t48=o
 s16:L.getD 16 false=true->∃ q:Nat,t8= .pointer (some ⟨q,0,none⟩)/\N<=q
 s17:L.getD 17 false=true->∃ (q:Nat) (k2 n2:Int) (e0 e1 e2 e3:Value) (m o:Value),t8= .pointer (some ⟨q,0,none⟩)/\N<=q/\t45= .tuple #[sv k2 n2 e0 e1 e2 e3,m,o]/\Bk W q #[.int .i64 k2, .int .i64 n2,e0,e1,e2,e3] 30
 s18:L.getD 18 false=true->∃ x m o:Value,t45= .tuple #[x,m,o]/\t9=m
 s19:L.getD 19 false=true->∃ x m o:Value,t45= .tuple #[x,m,o]/\t10=o
 c12:L.getD 12 false=true->L.getD 11 false=true
 c13:L.getD 13 false=true->L.getD 11 false=true
 c14:L.getD 14 false=true->L.getD 11 false=true
 c15:L.getD 15 false=true->L.getD 11 false=true
 c17:L.getD 17 false=true->L.getD 11 false=true
 c18:L.getD 18 false=true->L.getD 11 false=true
 c19:L.getD 19 false=true->L.getD 11 false=true
 d:L.getD 17 false=true->L.getD 16 false=true
 z:L.getD 16 false=true->L.getD 17 true=false->∃ q:Nat,t8= .pointer (some ⟨q,0,none⟩)/\N<=q/\Bk W q #[.int .i64 0, .int .i64 0, .slice none 0 0, .slice none 0 0, .slice none 0 0, .slice none 0 0] 30
section
variable {B g N:Nat} {v:Value} {n:Nat} {p0:Int} {G:SS->Prop} {SV FV:Value} {b:Nat} {L:Array Bool} {W W':World} {t8 t9 t10 t33 t34 t35 t36 t37 t38 t39 t40 t41 t42 t43 t44 t45 t46 t47 t48:Value}
theorem AtX.keep (h:AtX B g N v n p0 G SV FV b L W t8 t9 t10 t33 t34 t35 t36 t37 t38 t39 t40 t41 t42 t43 t44 t45 t46 t47 t48) (hb:Below W.heap.size W W') (hg:g<N):AtX B g N v n p0 G SV FV b L W' t8 t9 t10 t33 t34 t35 t36 t37 t38 t39 t40 t41 t42 t43 t44 t45 t46 t47 t48 where
 rd:=by obtain ⟨p3,h1,h2,h3⟩:=h.rd;exact ⟨p3,h1,h2,h3.keepb hb⟩
 s0:=h.s0
 s1:=h.s1
 s2:=h.s2
 s3:=h.s3
 s4:=h.s4
 s5:=h.s5
 s6:=h.s6
 s7:=h.s7
 s8:=h.s8
 s9:=fun e=>by have hx:Bx g W W':=Bx.of_below hb;exact (by obtain ⟨a0,a1,ow⟩:=h.s9 e;exact ⟨a0,a1,oX ow hx hg⟩)
 s10:=fun e=>by have hx:Bx g W W':=Bx.of_below hb;exact (by obtain ⟨a0,a1,ow⟩:=h.s10 e;exact ⟨a0,a1,oX ow hx hg⟩)
 s11:=fun e=>by have hx:Bx g W W':=Bx.of_below hb;exact (by obtain ⟨x,m,o,e1,an⟩:=h.s11 e;exact ⟨x,m,o,e1,an.move (fun z hz hl=>⟨hz,hx.block z hl (by have:=hz.1;omega)⟩) hx.size⟩)
 s12:=h.s12
 s13:=h.s13
 s14:=h.s14
 s15:=h.s15
 s16:=h.s16
 s17:=fun e=>by have hx:Bx g W W':=Bx.of_below hb;exact (by obtain ⟨q,k2,n2,e0,e1,e2,e3,m,o,h1,h2,h3,h4⟩:=h.s17 e;exact ⟨q,k2,n2,e0,e1,e2,e3,m,o,h1,h2,h3,h4.keepx hx (by omega)⟩)
 s18:=h.s18
 s19:=h.s19
 c12:=h.c12
 c13:=h.c13
 c14:=h.c14
 c15:=h.c15
 c17:=h.c17
 c18:=h.c18
 c19:=h.c19
 d:=h.d
 z:=fun e1 e2=>by obtain ⟨q,h1,h2,h3⟩:=h.z e1 e2;exact ⟨q,h1,h2,h3.keep hb⟩
theorem AtX.put0 {u:Value} (h:AtX B g N v n p0 G SV FV b L W t8 t9 t10 t33 t34 t35 t36 t37 t38 t39 t40 t41 t42 t43 t44 t45 t46 t47 t48) (hu:u=SV):AtX B g N v n p0 G SV FV b (L.setIfInBounds 0 true) W t8 t9 t10 t33 u t35 t36 t37 t38 t39 t40 t41 t42 t43 t44 t45 t46 t47 t48 where
 rd:=by obtain ⟨p3,h1,h2,h3⟩:=h.rd;exact ⟨p3,h1,by rw [fN (i:=0) (j:=4) (by decide),fN (i:=0) (j:=7) (by decide)];exact h2,h3⟩
 s0:=fun _=>hu
 s1:=fun e=>h.s1 (gS e)
 s2:=fun e=>h.s2 (gS e)
 s3:=fun e=>h.s3 (gS e)
 s4:=fun e=>h.s4 (gS e)
 s5:=fun e=>h.s5 (gS e)
 s6:=fun e=>h.s6 (gS e)
 s7:=fun e=>h.s7 (gS e)
 s8:=fun e=>h.s8 (gS e)
 s9:=fun e=>h.s9 (gS e)
 s10:=fun e=>h.s10 (gS e)
 s11:=fun e=>by obtain ⟨x,m,o,e1,an⟩:=h.s11 (gS e);exact ⟨x,m,o,e1,an.wk fun z hz _=>⟨hz.1,fun e=>hz.2 (gS e)⟩⟩
 s12:=fun e=>h.s12 (gS e)
 s13:=fun e=>h.s13 (gS e)
 s14:=fun e=>h.s14 (gS e)
 s15:=fun e=>h.s15 (gS e)
 s16:=fun e=>h.s16 (gS e)
 s17:=fun e=>h.s17 (gS e)
 s18:=fun e=>h.s18 (gS e)
 s19:=fun e=>h.s19 (gS e)
 c12:=fun e=>gU (h.c12 (gS e))
 c13:=fun e=>gU (h.c13 (gS e))
 c14:=fun e=>gU (h.c14 (gS e))
 c15:=fun e=>gU (h.c15 (gS e))
 c17:=fun e=>gU (h.c17 (gS e))
 c18:=fun e=>gU (h.c18 (gS e))
 c19:=fun e=>gU (h.c19 (gS e))
 d:=fun e=>gU (h.d (gS e))
 z:=fun e1 e2=>h.z (gS e1) (gT e2)
theorem AtX.put1 {u:Value} (h:AtX B g N v n p0 G SV FV b L W t8 t9 t10 t33 t34 t35 t36 t37 t38 t39 t40 t41 t42 t43 t44 t45 t46 t47 t48) (hu:u= .pointer (some ⟨b,4,none⟩)):AtX B g N v n p0 G SV FV b (L.setIfInBounds 1 true) W t8 t9 t10 t33 t34 u t36 t37 t38 t39 t40 t41 t42 t43 t44 t45 t46 t47 t48 where
 rd:=by obtain ⟨p3,h1,h2,h3⟩:=h.rd;exact ⟨p3,h1,by rw [fN (i:=1) (j:=4) (by decide),fN (i:=1) (j:=7) (by decide)];exact h2,h3⟩
 s1:=fun _=>hu
 s0:=fun e=>h.s0 (gS e)
 s2:=fun e=>h.s2 (gS e)
 s3:=fun e=>h.s3 (gS e)
 s4:=fun e=>h.s4 (gS e)
 s5:=fun e=>h.s5 (gS e)
 s6:=fun e=>h.s6 (gS e)
 s7:=fun e=>h.s7 (gS e)
 s8:=fun e=>h.s8 (gS e)
 s9:=fun e=>h.s9 (gS e)
 s10:=fun e=>h.s10 (gS e)
 s11:=fun e=>by obtain ⟨x,m,o,e1,an⟩:=h.s11 (gS e);exact ⟨x,m,o,e1,an.wk fun z hz _=>⟨hz.1,fun e=>hz.2 (gS e)⟩⟩
 s12:=fun e=>h.s12 (gS e)
 s13:=fun e=>h.s13 (gS e)
 s14:=fun e=>h.s14 (gS e)
 s15:=fun e=>h.s15 (gS e)
 s16:=fun e=>h.s16 (gS e)
 s17:=fun e=>h.s17 (gS e)
 s18:=fun e=>h.s18 (gS e)
 s19:=fun e=>h.s19 (gS e)
 c12:=fun e=>gU (h.c12 (gS e))
 c13:=fun e=>gU (h.c13 (gS e))
 c14:=fun e=>gU (h.c14 (gS e))
 c15:=fun e=>gU (h.c15 (gS e))
 c17:=fun e=>gU (h.c17 (gS e))
 c18:=fun e=>gU (h.c18 (gS e))
 c19:=fun e=>gU (h.c19 (gS e))
 d:=fun e=>gU (h.d (gS e))
 z:=fun e1 e2=>h.z (gS e1) (gT e2)
theorem AtX.put2 {u:Value} (h:AtX B g N v n p0 G SV FV b L W t8 t9 t10 t33 t34 t35 t36 t37 t38 t39 t40 t41 t42 t43 t44 t45 t46 t47 t48) (hu:u=FV):AtX B g N v n p0 G SV FV b (L.setIfInBounds 2 true) W t8 t9 t10 t33 t34 t35 u t37 t38 t39 t40 t41 t42 t43 t44 t45 t46 t47 t48 where
 rd:=by obtain ⟨p3,h1,h2,h3⟩:=h.rd;exact ⟨p3,h1,by rw [fN (i:=2) (j:=4) (by decide),fN (i:=2) (j:=7) (by decide)];exact h2,h3⟩
 s2:=fun _=>hu
 s0:=fun e=>h.s0 (gS e)
 s1:=fun e=>h.s1 (gS e)
 s3:=fun e=>h.s3 (gS e)
 s4:=fun e=>h.s4 (gS e)
 s5:=fun e=>h.s5 (gS e)
 s6:=fun e=>h.s6 (gS e)
 s7:=fun e=>h.s7 (gS e)
 s8:=fun e=>h.s8 (gS e)
 s9:=fun e=>h.s9 (gS e)
 s10:=fun e=>h.s10 (gS e)
 s11:=fun e=>by obtain ⟨x,m,o,e1,an⟩:=h.s11 (gS e);exact ⟨x,m,o,e1,an.wk fun z hz _=>⟨hz.1,fun e=>hz.2 (gS e)⟩⟩
 s12:=fun e=>h.s12 (gS e)
 s13:=fun e=>h.s13 (gS e)
 s14:=fun e=>h.s14 (gS e)
 s15:=fun e=>h.s15 (gS e)
 s16:=fun e=>h.s16 (gS e)
 s17:=fun e=>h.s17 (gS e)
 s18:=fun e=>h.s18 (gS e)
 s19:=fun e=>h.s19 (gS e)
 c12:=fun e=>gU (h.c12 (gS e))
 c13:=fun e=>gU (h.c13 (gS e))
 c14:=fun e=>gU (h.c14 (gS e))
 c15:=fun e=>gU (h.c15 (gS e))
 c17:=fun e=>gU (h.c17 (gS e))
 c18:=fun e=>gU (h.c18 (gS e))
 c19:=fun e=>gU (h.c19 (gS e))
 d:=fun e=>gU (h.d (gS e))
 z:=fun e1 e2=>h.z (gS e1) (gT e2)
theorem AtX.put3 {u:Value} (h:AtX B g N v n p0 G SV FV b L W t8 t9 t10 t33 t34 t35 t36 t37 t38 t39 t40 t41 t42 t43 t44 t45 t46 t47 t48) (hu:u= .pointer (some ⟨g,0,none⟩)):AtX B g N v n p0 G SV FV b (L.setIfInBounds 3 true) W t8 t9 t10 t33 t34 t35 t36 u t38 t39 t40 t41 t42 t43 t44 t45 t46 t47 t48 where
 rd:=by obtain ⟨p3,h1,h2,h3⟩:=h.rd;exact ⟨p3,h1,by rw [fN (i:=3) (j:=4) (by decide),fN (i:=3) (j:=7) (by decide)];exact h2,h3⟩
 s3:=fun _=>hu
 s0:=fun e=>h.s0 (gS e)
 s1:=fun e=>h.s1 (gS e)
 s2:=fun e=>h.s2 (gS e)
 s4:=fun e=>h.s4 (gS e)
 s5:=fun e=>h.s5 (gS e)
 s6:=fun e=>h.s6 (gS e)
 s7:=fun e=>h.s7 (gS e)
 s8:=fun e=>h.s8 (gS e)
 s9:=fun e=>h.s9 (gS e)
 s10:=fun e=>h.s10 (gS e)
 s11:=fun e=>by obtain ⟨x,m,o,e1,an⟩:=h.s11 (gS e);exact ⟨x,m,o,e1,an.wk fun z hz _=>⟨hz.1,fun e=>hz.2 (gS e)⟩⟩
 s12:=fun e=>h.s12 (gS e)
 s13:=fun e=>h.s13 (gS e)
 s14:=fun e=>h.s14 (gS e)
 s15:=fun e=>h.s15 (gS e)
 s16:=fun e=>h.s16 (gS e)
 s17:=fun e=>h.s17 (gS e)
 s18:=fun e=>h.s18 (gS e)
 s19:=fun e=>h.s19 (gS e)
 c12:=fun e=>gU (h.c12 (gS e))
 c13:=fun e=>gU (h.c13 (gS e))
 c14:=fun e=>gU (h.c14 (gS e))
 c15:=fun e=>gU (h.c15 (gS e))
 c17:=fun e=>gU (h.c17 (gS e))
 c18:=fun e=>gU (h.c18 (gS e))
 c19:=fun e=>gU (h.c19 (gS e))
 d:=fun e=>gU (h.d (gS e))
 z:=fun e1 e2=>h.z (gS e1) (gT e2)
theorem AtX.put4 {u:Value} {p3 p4:Int} (hg:g<N) (hLs:L.size=20) (hun:L.getD 4 true=false) (h:AtX B g N v n p0 G SV FV b L W t8 t9 t10 t33 t34 t35 t36 t37 t38 t39 t40 t41 t42 t43 t44 t45 t46 t47 t48) (hx:Bx g W W') (h1:p0<=p3) (h2:p3<=p0+(fu (L.getD 4 false) 1+fu (L.getD 7 false) 1)) (h3:p3<=p4) (h4:p4<=p3+1) (hr:Rd B W' g v n p4) (hu:∃ k:Int,u= .int .i64 k/\0<=k/\k<4):AtX B g N v n p0 G SV FV b (L.setIfInBounds 4 true) W' t8 t9 t10 t33 t34 t35 t36 t37 u t39 t40 t41 t42 t43 t44 t45 t46 t47 t48 where
 rd:=⟨p4,by omega,by rw [fu_here (i:=4) (by omega),fN (i:=4) (j:=7) (by decide)];rw [fu_no hun] at h2;omega,hr⟩
 s0:=fun e=>h.s0 (gS e)
 s1:=fun e=>h.s1 (gS e)
 s2:=fun e=>h.s2 (gS e)
 s3:=fun e=>h.s3 (gS e)
 s4:=fun _=>hu
 s5:=fun e=>h.s5 (gS e)
 s6:=fun e=>h.s6 (gS e)
 s7:=fun e=>h.s7 (gS e)
 s8:=fun e=>h.s8 (gS e)
 s9:=fun e=>(by obtain ⟨a0,a1,ow⟩:=h.s9 (gS e);exact ⟨a0,a1,oX ow hx hg⟩)
 s10:=fun e=>(by obtain ⟨a0,a1,ow⟩:=h.s10 (gS e);exact ⟨a0,a1,oX ow hx hg⟩)
 s11:=fun e=>by obtain ⟨x,m,o,e1,an⟩:=h.s11 (gS e);exact ⟨x,m,o,e1,an.move (fun z hz hl=>⟨⟨hz.1,fun e=>hz.2 (gS e)⟩,hx.block z hl (by have:=hz.1;omega)⟩) hx.size⟩
 s12:=fun e=>h.s12 (gS e)
 s13:=fun e=>h.s13 (gS e)
 s14:=fun e=>h.s14 (gS e)
 s15:=fun e=>h.s15 (gS e)
 s16:=fun e=>h.s16 (gS e)
 s17:=fun e=>(by obtain ⟨q,k2,n2,e0,e1,e2,e3,m,o,h1,h2,h3,h4⟩:=h.s17 (gS e);exact ⟨q,k2,n2,e0,e1,e2,e3,m,o,h1,h2,h3,h4.keepx hx (by omega)⟩)
 s18:=fun e=>h.s18 (gS e)
 s19:=fun e=>h.s19 (gS e)
 c12:=fun e=>gU (h.c12 (gS e))
 c13:=fun e=>gU (h.c13 (gS e))
 c14:=fun e=>gU (h.c14 (gS e))
 c15:=fun e=>gU (h.c15 (gS e))
 c17:=fun e=>gU (h.c17 (gS e))
 c18:=fun e=>gU (h.c18 (gS e))
 c19:=fun e=>gU (h.c19 (gS e))
 d:=fun e=>gU (h.d (gS e))
 z:=fun e1 e2=>by obtain ⟨q,h1,h2,h3⟩:=h.z (gS e1) (gT e2);exact ⟨q,h1,h2,h3.keepx hx (by omega)⟩
theorem AtX.put5 {u:Value} (h:AtX B g N v n p0 G SV FV b L W t8 t9 t10 t33 t34 t35 t36 t37 t38 t39 t40 t41 t42 t43 t44 t45 t46 t47 t48) (hu:∃ k:Int,u= .int .i64 k):AtX B g N v n p0 G SV FV b (L.setIfInBounds 5 true) W t8 t9 t10 t33 t34 t35 t36 t37 t38 u t40 t41 t42 t43 t44 t45 t46 t47 t48 where
 rd:=by obtain ⟨p3,h1,h2,h3⟩:=h.rd;exact ⟨p3,h1,by rw [fN (i:=5) (j:=4) (by decide),fN (i:=5) (j:=7) (by decide)];exact h2,h3⟩
 s5:=fun _=>hu
 s0:=fun e=>h.s0 (gS e)
 s1:=fun e=>h.s1 (gS e)
 s2:=fun e=>h.s2 (gS e)
 s3:=fun e=>h.s3 (gS e)
 s4:=fun e=>h.s4 (gS e)
 s6:=fun e=>h.s6 (gS e)
 s7:=fun e=>h.s7 (gS e)
 s8:=fun e=>h.s8 (gS e)
 s9:=fun e=>h.s9 (gS e)
 s10:=fun e=>h.s10 (gS e)
 s11:=fun e=>by obtain ⟨x,m,o,e1,an⟩:=h.s11 (gS e);exact ⟨x,m,o,e1,an.wk fun z hz _=>⟨hz.1,fun e=>hz.2 (gS e)⟩⟩
 s12:=fun e=>h.s12 (gS e)
 s13:=fun e=>h.s13 (gS e)
 s14:=fun e=>h.s14 (gS e)
 s15:=fun e=>h.s15 (gS e)
 s16:=fun e=>h.s16 (gS e)
 s17:=fun e=>h.s17 (gS e)
 s18:=fun e=>h.s18 (gS e)
 s19:=fun e=>h.s19 (gS e)
 c12:=fun e=>gU (h.c12 (gS e))
 c13:=fun e=>gU (h.c13 (gS e))
 c14:=fun e=>gU (h.c14 (gS e))
 c15:=fun e=>gU (h.c15 (gS e))
 c17:=fun e=>gU (h.c17 (gS e))
 c18:=fun e=>gU (h.c18 (gS e))
 c19:=fun e=>gU (h.c19 (gS e))
 d:=fun e=>gU (h.d (gS e))
 z:=fun e1 e2=>h.z (gS e1) (gT e2)
theorem AtX.put6 {u:Value} (h:AtX B g N v n p0 G SV FV b L W t8 t9 t10 t33 t34 t35 t36 t37 t38 t39 t40 t41 t42 t43 t44 t45 t46 t47 t48) (hu:u= .pointer (some ⟨g,0,none⟩)):AtX B g N v n p0 G SV FV b (L.setIfInBounds 6 true) W t8 t9 t10 t33 t34 t35 t36 t37 t38 t39 u t41 t42 t43 t44 t45 t46 t47 t48 where
 rd:=by obtain ⟨p3,h1,h2,h3⟩:=h.rd;exact ⟨p3,h1,by rw [fN (i:=6) (j:=4) (by decide),fN (i:=6) (j:=7) (by decide)];exact h2,h3⟩
 s6:=fun _=>hu
 s0:=fun e=>h.s0 (gS e)
 s1:=fun e=>h.s1 (gS e)
 s2:=fun e=>h.s2 (gS e)
 s3:=fun e=>h.s3 (gS e)
 s4:=fun e=>h.s4 (gS e)
 s5:=fun e=>h.s5 (gS e)
 s7:=fun e=>h.s7 (gS e)
 s8:=fun e=>h.s8 (gS e)
 s9:=fun e=>h.s9 (gS e)
 s10:=fun e=>h.s10 (gS e)
 s11:=fun e=>by obtain ⟨x,m,o,e1,an⟩:=h.s11 (gS e);exact ⟨x,m,o,e1,an.wk fun z hz _=>⟨hz.1,fun e=>hz.2 (gS e)⟩⟩
 s12:=fun e=>h.s12 (gS e)
 s13:=fun e=>h.s13 (gS e)
 s14:=fun e=>h.s14 (gS e)
 s15:=fun e=>h.s15 (gS e)
 s16:=fun e=>h.s16 (gS e)
 s17:=fun e=>h.s17 (gS e)
 s18:=fun e=>h.s18 (gS e)
 s19:=fun e=>h.s19 (gS e)
 c12:=fun e=>gU (h.c12 (gS e))
 c13:=fun e=>gU (h.c13 (gS e))
 c14:=fun e=>gU (h.c14 (gS e))
 c15:=fun e=>gU (h.c15 (gS e))
 c17:=fun e=>gU (h.c17 (gS e))
 c18:=fun e=>gU (h.c18 (gS e))
 c19:=fun e=>gU (h.c19 (gS e))
 d:=fun e=>gU (h.d (gS e))
 z:=fun e1 e2=>h.z (gS e1) (gT e2)
theorem AtX.put7 {u:Value} {p3 p4:Int} (hg:g<N) (hLs:L.size=20) (hun:L.getD 7 true=false) (h:AtX B g N v n p0 G SV FV b L W t8 t9 t10 t33 t34 t35 t36 t37 t38 t39 t40 t41 t42 t43 t44 t45 t46 t47 t48) (hx:Bx g W W') (h1:p0<=p3) (h2:p3<=p0+(fu (L.getD 4 false) 1+fu (L.getD 7 false) 1)) (h3:p3<=p4) (h4:p4<=p3+1) (hr:Rd B W' g v n p4) (hu:∃ k:Int,u= .int .i64 k/\0<=k/\k<3):AtX B g N v n p0 G SV FV b (L.setIfInBounds 7 true) W' t8 t9 t10 t33 t34 t35 t36 t37 t38 t39 t40 u t42 t43 t44 t45 t46 t47 t48 where
 rd:=⟨p4,by omega,by rw [fN (i:=7) (j:=4) (by decide),fu_here (i:=7) (by omega)];rw [fu_no hun] at h2;omega,hr⟩
 s0:=fun e=>h.s0 (gS e)
 s1:=fun e=>h.s1 (gS e)
 s2:=fun e=>h.s2 (gS e)
 s3:=fun e=>h.s3 (gS e)
 s4:=fun e=>h.s4 (gS e)
 s5:=fun e=>h.s5 (gS e)
 s6:=fun e=>h.s6 (gS e)
 s7:=fun _=>hu
 s8:=fun e=>h.s8 (gS e)
 s9:=fun e=>(by obtain ⟨a0,a1,ow⟩:=h.s9 (gS e);exact ⟨a0,a1,oX ow hx hg⟩)
 s10:=fun e=>(by obtain ⟨a0,a1,ow⟩:=h.s10 (gS e);exact ⟨a0,a1,oX ow hx hg⟩)
 s11:=fun e=>by obtain ⟨x,m,o,e1,an⟩:=h.s11 (gS e);exact ⟨x,m,o,e1,an.move (fun z hz hl=>⟨⟨hz.1,fun e=>hz.2 (gS e)⟩,hx.block z hl (by have:=hz.1;omega)⟩) hx.size⟩
 s12:=fun e=>h.s12 (gS e)
 s13:=fun e=>h.s13 (gS e)
 s14:=fun e=>h.s14 (gS e)
 s15:=fun e=>h.s15 (gS e)
 s16:=fun e=>h.s16 (gS e)
 s17:=fun e=>(by obtain ⟨q,k2,n2,e0,e1,e2,e3,m,o,h1,h2,h3,h4⟩:=h.s17 (gS e);exact ⟨q,k2,n2,e0,e1,e2,e3,m,o,h1,h2,h3,h4.keepx hx (by omega)⟩)
 s18:=fun e=>h.s18 (gS e)
 s19:=fun e=>h.s19 (gS e)
 c12:=fun e=>gU (h.c12 (gS e))
 c13:=fun e=>gU (h.c13 (gS e))
 c14:=fun e=>gU (h.c14 (gS e))
 c15:=fun e=>gU (h.c15 (gS e))
 c17:=fun e=>gU (h.c17 (gS e))
 c18:=fun e=>gU (h.c18 (gS e))
 c19:=fun e=>gU (h.c19 (gS e))
 d:=fun e=>gU (h.d (gS e))
 z:=fun e1 e2=>by obtain ⟨q,h1,h2,h3⟩:=h.z (gS e1) (gT e2);exact ⟨q,h1,h2,h3.keepx hx (by omega)⟩
theorem AtX.put8 {u:Value} (h:AtX B g N v n p0 G SV FV b L W t8 t9 t10 t33 t34 t35 t36 t37 t38 t39 t40 t41 t42 t43 t44 t45 t46 t47 t48) (hu:∃ x y:Int,u=tv x y):AtX B g N v n p0 G SV FV b (L.setIfInBounds 8 true) W t8 t9 t10 t33 t34 t35 t36 t37 t38 t39 t40 t41 u t43 t44 t45 t46 t47 t48 where
 rd:=by obtain ⟨p3,h1,h2,h3⟩:=h.rd;exact ⟨p3,h1,by rw [fN (i:=8) (j:=4) (by decide),fN (i:=8) (j:=7) (by decide)];exact h2,h3⟩
 s8:=fun _=>hu
 s0:=fun e=>h.s0 (gS e)
 s1:=fun e=>h.s1 (gS e)
 s2:=fun e=>h.s2 (gS e)
 s3:=fun e=>h.s3 (gS e)
 s4:=fun e=>h.s4 (gS e)
 s5:=fun e=>h.s5 (gS e)
 s6:=fun e=>h.s6 (gS e)
 s7:=fun e=>h.s7 (gS e)
 s9:=fun e=>h.s9 (gS e)
 s10:=fun e=>h.s10 (gS e)
 s11:=fun e=>by obtain ⟨x,m,o,e1,an⟩:=h.s11 (gS e);exact ⟨x,m,o,e1,an.wk fun z hz _=>⟨hz.1,fun e=>hz.2 (gS e)⟩⟩
 s12:=fun e=>h.s12 (gS e)
 s13:=fun e=>h.s13 (gS e)
 s14:=fun e=>h.s14 (gS e)
 s15:=fun e=>h.s15 (gS e)
 s16:=fun e=>h.s16 (gS e)
 s17:=fun e=>h.s17 (gS e)
 s18:=fun e=>h.s18 (gS e)
 s19:=fun e=>h.s19 (gS e)
 c12:=fun e=>gU (h.c12 (gS e))
 c13:=fun e=>gU (h.c13 (gS e))
 c14:=fun e=>gU (h.c14 (gS e))
 c15:=fun e=>gU (h.c15 (gS e))
 c17:=fun e=>gU (h.c17 (gS e))
 c18:=fun e=>gU (h.c18 (gS e))
 c19:=fun e=>gU (h.c19 (gS e))
 d:=fun e=>gU (h.d (gS e))
 z:=fun e1 e2=>h.z (gS e1) (gT e2)
theorem AtX.put9 {u:Value} (h:AtX B g N v n p0 G SV FV b L W t8 t9 t10 t33 t34 t35 t36 t37 t38 t39 t40 t41 t42 t43 t44 t45 t46 t47 t48) (hu:∃ f:LI,f.length<=1000/\Own W N u f):AtX B g N v n p0 G SV FV b (L.setIfInBounds 9 true) W t8 t9 t10 t33 t34 t35 t36 t37 t38 t39 t40 t41 t42 u t44 t45 t46 t47 t48 where
 rd:=by obtain ⟨p3,h1,h2,h3⟩:=h.rd;exact ⟨p3,h1,by rw [fN (i:=9) (j:=4) (by decide),fN (i:=9) (j:=7) (by decide)];exact h2,h3⟩
 s9:=fun _=>hu
 s0:=fun e=>h.s0 (gS e)
 s1:=fun e=>h.s1 (gS e)
 s2:=fun e=>h.s2 (gS e)
 s3:=fun e=>h.s3 (gS e)
 s4:=fun e=>h.s4 (gS e)
 s5:=fun e=>h.s5 (gS e)
 s6:=fun e=>h.s6 (gS e)
 s7:=fun e=>h.s7 (gS e)
 s8:=fun e=>h.s8 (gS e)
 s10:=fun e=>h.s10 (gS e)
 s11:=fun e=>by obtain ⟨x,m,o,e1,an⟩:=h.s11 (gS e);exact ⟨x,m,o,e1,an.wk fun z hz _=>⟨hz.1,fun e=>hz.2 (gS e)⟩⟩
 s12:=fun e=>h.s12 (gS e)
 s13:=fun e=>h.s13 (gS e)
 s14:=fun e=>h.s14 (gS e)
 s15:=fun e=>h.s15 (gS e)
 s16:=fun e=>h.s16 (gS e)
 s17:=fun e=>h.s17 (gS e)
 s18:=fun e=>h.s18 (gS e)
 s19:=fun e=>h.s19 (gS e)
 c12:=fun e=>gU (h.c12 (gS e))
 c13:=fun e=>gU (h.c13 (gS e))
 c14:=fun e=>gU (h.c14 (gS e))
 c15:=fun e=>gU (h.c15 (gS e))
 c17:=fun e=>gU (h.c17 (gS e))
 c18:=fun e=>gU (h.c18 (gS e))
 c19:=fun e=>gU (h.c19 (gS e))
 d:=fun e=>gU (h.d (gS e))
 z:=fun e1 e2=>h.z (gS e1) (gT e2)
theorem AtX.put10 {u:Value} (h:AtX B g N v n p0 G SV FV b L W t8 t9 t10 t33 t34 t35 t36 t37 t38 t39 t40 t41 t42 t43 t44 t45 t46 t47 t48) (hu:∃ f:LI,f.length<=1000/\Own W N u f):AtX B g N v n p0 G SV FV b (L.setIfInBounds 10 true) W t8 t9 t10 t33 t34 t35 t36 t37 t38 t39 t40 t41 t42 t43 u t45 t46 t47 t48 where
 rd:=by obtain ⟨p3,h1,h2,h3⟩:=h.rd;exact ⟨p3,h1,by rw [fN (i:=10) (j:=4) (by decide),fN (i:=10) (j:=7) (by decide)];exact h2,h3⟩
 s10:=fun _=>hu
 s0:=fun e=>h.s0 (gS e)
 s1:=fun e=>h.s1 (gS e)
 s2:=fun e=>h.s2 (gS e)
 s3:=fun e=>h.s3 (gS e)
 s4:=fun e=>h.s4 (gS e)
 s5:=fun e=>h.s5 (gS e)
 s6:=fun e=>h.s6 (gS e)
 s7:=fun e=>h.s7 (gS e)
 s8:=fun e=>h.s8 (gS e)
 s9:=fun e=>h.s9 (gS e)
 s11:=fun e=>by obtain ⟨x,m,o,e1,an⟩:=h.s11 (gS e);exact ⟨x,m,o,e1,an.wk fun z hz _=>⟨hz.1,fun e=>hz.2 (gS e)⟩⟩
 s12:=fun e=>h.s12 (gS e)
 s13:=fun e=>h.s13 (gS e)
 s14:=fun e=>h.s14 (gS e)
 s15:=fun e=>h.s15 (gS e)
 s16:=fun e=>h.s16 (gS e)
 s17:=fun e=>h.s17 (gS e)
 s18:=fun e=>h.s18 (gS e)
 s19:=fun e=>h.s19 (gS e)
 c12:=fun e=>gU (h.c12 (gS e))
 c13:=fun e=>gU (h.c13 (gS e))
 c14:=fun e=>gU (h.c14 (gS e))
 c15:=fun e=>gU (h.c15 (gS e))
 c17:=fun e=>gU (h.c17 (gS e))
 c18:=fun e=>gU (h.c18 (gS e))
 c19:=fun e=>gU (h.c19 (gS e))
 d:=fun e=>gU (h.d (gS e))
 z:=fun e1 e2=>h.z (gS e1) (gT e2)
theorem AtX.put11 {u:Value} (hL:L.getD 11 false=true->False) (h:AtX B g N v n p0 G SV FV b L W t8 t9 t10 t33 t34 t35 t36 t37 t38 t39 t40 t41 t42 t43 t44 t45 t46 t47 t48) (hu:∃ x m o:Value,u= .tuple #[x,m,o]/\AnsX G W (fun z=>N<=z/\(L.getD 16 false=true->t8≠ .pointer (some ⟨z,0,none⟩))) x o):AtX B g N v n p0 G SV FV b (L.setIfInBounds 11 true) W t8 t9 t10 t33 t34 t35 t36 t37 t38 t39 t40 t41 t42 t43 t44 u t46 t47 t48 where
 rd:=by obtain ⟨p3,h1,h2,h3⟩:=h.rd;exact ⟨p3,h1,by rw [fN (i:=11) (j:=4) (by decide),fN (i:=11) (j:=7) (by decide)];exact h2,h3⟩
 s11:=fun _=>by obtain ⟨x,m,o,e1,an⟩:=hu;exact ⟨x,m,o,e1,an.wk fun z hz _=>⟨hz.1,fun e=>hz.2 (gS e)⟩⟩
 s0:=fun e=>h.s0 (gS e)
 s1:=fun e=>h.s1 (gS e)
 s2:=fun e=>h.s2 (gS e)
 s3:=fun e=>h.s3 (gS e)
 s4:=fun e=>h.s4 (gS e)
 s5:=fun e=>h.s5 (gS e)
 s6:=fun e=>h.s6 (gS e)
 s7:=fun e=>h.s7 (gS e)
 s8:=fun e=>h.s8 (gS e)
 s9:=fun e=>h.s9 (gS e)
 s10:=fun e=>h.s10 (gS e)
 s12:=fun e=>(hL (h.c12 (gS e))).elim
 s13:=fun e=>(hL (h.c13 (gS e))).elim
 s14:=fun e=>(hL (h.c14 (gS e))).elim
 s15:=fun e=>(hL (h.c15 (gS e))).elim
 s16:=fun e=>h.s16 (gS e)
 s17:=fun e=>(hL (h.c17 (gS e))).elim
 s18:=fun e=>(hL (h.c18 (gS e))).elim
 s19:=fun e=>(hL (h.c19 (gS e))).elim
 c12:=fun e=>gU (h.c12 (gS e))
 c13:=fun e=>gU (h.c13 (gS e))
 c14:=fun e=>gU (h.c14 (gS e))
 c15:=fun e=>gU (h.c15 (gS e))
 c17:=fun e=>gU (h.c17 (gS e))
 c18:=fun e=>gU (h.c18 (gS e))
 c19:=fun e=>gU (h.c19 (gS e))
 d:=fun e=>gU (h.d (gS e))
 z:=fun e1 e2=>h.z (gS e1) (gT e2)
theorem AtX.put12 {u:Value} (hl:L.getD 11 false=true) (h:AtX B g N v n p0 G SV FV b L W t8 t9 t10 t33 t34 t35 t36 t37 t38 t39 t40 t41 t42 t43 t44 t45 t46 t47 t48) (hu:u=t45):AtX B g N v n p0 G SV FV b (L.setIfInBounds 12 true) W t8 t9 t10 u t34 t35 t36 t37 t38 t39 t40 t41 t42 t43 t44 t45 t46 t47 t48 where
 rd:=by obtain ⟨p3,h1,h2,h3⟩:=h.rd;exact ⟨p3,h1,by rw [fN (i:=12) (j:=4) (by decide),fN (i:=12) (j:=7) (by decide)];exact h2,h3⟩
 s12:=fun _=>hu
 s0:=fun e=>h.s0 (gS e)
 s1:=fun e=>h.s1 (gS e)
 s2:=fun e=>h.s2 (gS e)
 s3:=fun e=>h.s3 (gS e)
 s4:=fun e=>h.s4 (gS e)
 s5:=fun e=>h.s5 (gS e)
 s6:=fun e=>h.s6 (gS e)
 s7:=fun e=>h.s7 (gS e)
 s8:=fun e=>h.s8 (gS e)
 s9:=fun e=>h.s9 (gS e)
 s10:=fun e=>h.s10 (gS e)
 s11:=fun e=>by obtain ⟨x,m,o,e1,an⟩:=h.s11 (gS e);exact ⟨x,m,o,e1,an.wk fun z hz _=>⟨hz.1,fun e=>hz.2 (gS e)⟩⟩
 s13:=fun e=>h.s13 (gS e)
 s14:=fun e=>h.s14 (gS e)
 s15:=fun e=>h.s15 (gS e)
 s16:=fun e=>h.s16 (gS e)
 s17:=fun e=>h.s17 (gS e)
 s18:=fun e=>h.s18 (gS e)
 s19:=fun e=>h.s19 (gS e)
 c12:=fun e=>gU (hl)
 c13:=fun e=>gU (h.c13 (gS e))
 c14:=fun e=>gU (h.c14 (gS e))
 c15:=fun e=>gU (h.c15 (gS e))
 c17:=fun e=>gU (h.c17 (gS e))
 c18:=fun e=>gU (h.c18 (gS e))
 c19:=fun e=>gU (h.c19 (gS e))
 d:=fun e=>gU (h.d (gS e))
 z:=fun e1 e2=>h.z (gS e1) (gT e2)
theorem AtX.put13 {u:Value} (hl:L.getD 11 false=true) (h:AtX B g N v n p0 G SV FV b L W t8 t9 t10 t33 t34 t35 t36 t37 t38 t39 t40 t41 t42 t43 t44 t45 t46 t47 t48) (hu:∃ x m o:Value,t45= .tuple #[x,m,o]/\u=x):AtX B g N v n p0 G SV FV b (L.setIfInBounds 13 true) W t8 t9 t10 t33 t34 t35 t36 t37 t38 t39 t40 t41 t42 t43 t44 t45 u t47 t48 where
 rd:=by obtain ⟨p3,h1,h2,h3⟩:=h.rd;exact ⟨p3,h1,by rw [fN (i:=13) (j:=4) (by decide),fN (i:=13) (j:=7) (by decide)];exact h2,h3⟩
 s13:=fun _=>hu
 s0:=fun e=>h.s0 (gS e)
 s1:=fun e=>h.s1 (gS e)
 s2:=fun e=>h.s2 (gS e)
 s3:=fun e=>h.s3 (gS e)
 s4:=fun e=>h.s4 (gS e)
 s5:=fun e=>h.s5 (gS e)
 s6:=fun e=>h.s6 (gS e)
 s7:=fun e=>h.s7 (gS e)
 s8:=fun e=>h.s8 (gS e)
 s9:=fun e=>h.s9 (gS e)
 s10:=fun e=>h.s10 (gS e)
 s11:=fun e=>by obtain ⟨x,m,o,e1,an⟩:=h.s11 (gS e);exact ⟨x,m,o,e1,an.wk fun z hz _=>⟨hz.1,fun e=>hz.2 (gS e)⟩⟩
 s12:=fun e=>h.s12 (gS e)
 s14:=fun e=>h.s14 (gS e)
 s15:=fun e=>h.s15 (gS e)
 s16:=fun e=>h.s16 (gS e)
 s17:=fun e=>h.s17 (gS e)
 s18:=fun e=>h.s18 (gS e)
 s19:=fun e=>h.s19 (gS e)
 c12:=fun e=>gU (h.c12 (gS e))
 c13:=fun e=>gU (hl)
 c14:=fun e=>gU (h.c14 (gS e))
 c15:=fun e=>gU (h.c15 (gS e))
 c17:=fun e=>gU (h.c17 (gS e))
 c18:=fun e=>gU (h.c18 (gS e))
 c19:=fun e=>gU (h.c19 (gS e))
 d:=fun e=>gU (h.d (gS e))
 z:=fun e1 e2=>h.z (gS e1) (gT e2)
theorem AtX.put14 {u:Value} (hl:L.getD 11 false=true) (h:AtX B g N v n p0 G SV FV b L W t8 t9 t10 t33 t34 t35 t36 t37 t38 t39 t40 t41 t42 t43 t44 t45 t46 t47 t48) (hu:∃ x m o:Value,t45= .tuple #[x,m,o]/\u=m):AtX B g N v n p0 G SV FV b (L.setIfInBounds 14 true) W t8 t9 t10 t33 t34 t35 t36 t37 t38 t39 t40 t41 t42 t43 t44 t45 t46 u t48 where
 rd:=by obtain ⟨p3,h1,h2,h3⟩:=h.rd;exact ⟨p3,h1,by rw [fN (i:=14) (j:=4) (by decide),fN (i:=14) (j:=7) (by decide)];exact h2,h3⟩
 s14:=fun _=>hu
 s0:=fun e=>h.s0 (gS e)
 s1:=fun e=>h.s1 (gS e)
 s2:=fun e=>h.s2 (gS e)
 s3:=fun e=>h.s3 (gS e)
 s4:=fun e=>h.s4 (gS e)
 s5:=fun e=>h.s5 (gS e)
 s6:=fun e=>h.s6 (gS e)
 s7:=fun e=>h.s7 (gS e)
 s8:=fun e=>h.s8 (gS e)
 s9:=fun e=>h.s9 (gS e)
 s10:=fun e=>h.s10 (gS e)
 s11:=fun e=>by obtain ⟨x,m,o,e1,an⟩:=h.s11 (gS e);exact ⟨x,m,o,e1,an.wk fun z hz _=>⟨hz.1,fun e=>hz.2 (gS e)⟩⟩
 s12:=fun e=>h.s12 (gS e)
 s13:=fun e=>h.s13 (gS e)
 s15:=fun e=>h.s15 (gS e)
 s16:=fun e=>h.s16 (gS e)
 s17:=fun e=>h.s17 (gS e)
 s18:=fun e=>h.s18 (gS e)
 s19:=fun e=>h.s19 (gS e)
 c12:=fun e=>gU (h.c12 (gS e))
 c13:=fun e=>gU (h.c13 (gS e))
 c14:=fun e=>gU (hl)
 c15:=fun e=>gU (h.c15 (gS e))
 c17:=fun e=>gU (h.c17 (gS e))
 c18:=fun e=>gU (h.c18 (gS e))
 c19:=fun e=>gU (h.c19 (gS e))
 d:=fun e=>gU (h.d (gS e))
 z:=fun e1 e2=>h.z (gS e1) (gT e2)
theorem AtX.put15 {u:Value} (hl:L.getD 11 false=true) (h:AtX B g N v n p0 G SV FV b L W t8 t9 t10 t33 t34 t35 t36 t37 t38 t39 t40 t41 t42 t43 t44 t45 t46 t47 t48) (hu:∃ x m o:Value,t45= .tuple #[x,m,o]/\u=o):AtX B g N v n p0 G SV FV b (L.setIfInBounds 15 true) W t8 t9 t10 t33 t34 t35 t36 t37 t38 t39 t40 t41 t42 t43 t44 t45 t46 t47 u where
 rd:=by obtain ⟨p3,h1,h2,h3⟩:=h.rd;exact ⟨p3,h1,by rw [fN (i:=15) (j:=4) (by decide),fN (i:=15) (j:=7) (by decide)];exact h2,h3⟩
 s15:=fun _=>hu
 s0:=fun e=>h.s0 (gS e)
 s1:=fun e=>h.s1 (gS e)
 s2:=fun e=>h.s2 (gS e)
 s3:=fun e=>h.s3 (gS e)
 s4:=fun e=>h.s4 (gS e)
 s5:=fun e=>h.s5 (gS e)
 s6:=fun e=>h.s6 (gS e)
 s7:=fun e=>h.s7 (gS e)
 s8:=fun e=>h.s8 (gS e)
 s9:=fun e=>h.s9 (gS e)
 s10:=fun e=>h.s10 (gS e)
 s11:=fun e=>by obtain ⟨x,m,o,e1,an⟩:=h.s11 (gS e);exact ⟨x,m,o,e1,an.wk fun z hz _=>⟨hz.1,fun e=>hz.2 (gS e)⟩⟩
 s12:=fun e=>h.s12 (gS e)
 s13:=fun e=>h.s13 (gS e)
 s14:=fun e=>h.s14 (gS e)
 s16:=fun e=>h.s16 (gS e)
 s17:=fun e=>h.s17 (gS e)
 s18:=fun e=>h.s18 (gS e)
 s19:=fun e=>h.s19 (gS e)
 c12:=fun e=>gU (h.c12 (gS e))
 c13:=fun e=>gU (h.c13 (gS e))
 c14:=fun e=>gU (h.c14 (gS e))
 c15:=fun e=>gU (hl)
 c17:=fun e=>gU (h.c17 (gS e))
 c18:=fun e=>gU (h.c18 (gS e))
 c19:=fun e=>gU (h.c19 (gS e))
 d:=fun e=>gU (h.d (gS e))
 z:=fun e1 e2=>h.z (gS e1) (gT e2)
theorem AtX.put16 (hLs:L.size=20) (hun:L.getD 16 true=false) (h0:AtX B g N v n p0 G SV FV b L W t8 t9 t10 t33 t34 t35 t36 t37 t38 t39 t40 t41 t42 t43 t44 t45 t46 t47 t48) (hN:N<=W.heap.size) (hg:g<N) (hb:Below W.heap.size W W') (hb':Bk W' W.heap.size #[.int .i64 0, .int .i64 0, .slice none 0 0, .slice none 0 0, .slice none 0 0, .slice none 0 0] 30):AtX B g N v n p0 G SV FV b (L.setIfInBounds 16 true) W' (.pointer (some ⟨W.heap.size,0,none⟩)) t9 t10 t33 t34 t35 t36 t37 t38 t39 t40 t41 t42 t43 t44 t45 t46 t47 t48:=by
 have h:=h0.keep hb hg;exact {
  rd:=by obtain ⟨p3,h1,h2,h3⟩:=h.rd;exact ⟨p3,h1,by rw [fN (i:=16) (j:=4) (by decide),fN (i:=16) (j:=7) (by decide)];exact h2,h3⟩,
  s0:=fun e=>h.s0 (gS e),
  s1:=fun e=>h.s1 (gS e),
  s2:=fun e=>h.s2 (gS e),
  s3:=fun e=>h.s3 (gS e),
  s4:=fun e=>h.s4 (gS e),
  s5:=fun e=>h.s5 (gS e),
  s6:=fun e=>h.s6 (gS e),
  s7:=fun e=>h.s7 (gS e),
  s8:=fun e=>h.s8 (gS e),
  s9:=fun e=>h.s9 (gS e),
  s10:=fun e=>h.s10 (gS e),
  s11:=fun e=>by obtain ⟨x,m,o,e1,an⟩:=h0.s11 (gS e);exact ⟨x,m,o,e1,an.move (fun z hz hl=>⟨⟨hz.1,fun _ e=>by have:=congrArg Addr.block (Option.some.inj (Value.pointer.inj e));simp at this;omega⟩,hb.block z hl⟩) hb.size⟩,
  s12:=fun e=>h.s12 (gS e),
  s13:=fun e=>h.s13 (gS e),
  s14:=fun e=>h.s14 (gS e),
  s15:=fun e=>h.s15 (gS e),
  s16:=fun _=>⟨_,rfl,hN⟩,
  s17:=fun e=>(gN (h.d (gS e)) hun).elim,
  s18:=fun e=>h.s18 (gS e),
  s19:=fun e=>h.s19 (gS e),
  c12:=fun e=>gU (h.c12 (gS e)),
  c13:=fun e=>gU (h.c13 (gS e)),
  c14:=fun e=>gU (h.c14 (gS e)),
  c15:=fun e=>gU (h.c15 (gS e)),
  c17:=fun e=>gU (h.c17 (gS e)),
  c18:=fun e=>gU (h.c18 (gS e)),
  c19:=fun e=>gU (h.c19 (gS e)),
  d:=fun _=>gH (by omega),
  z:=fun _ _=>⟨_,rfl,hN,hb'⟩ }
theorem AtX.put17 {q:Nat} {k2 n2:Int} {e0 e1 e2 e3 m o:Value} (hLs:L.size=20) (hl:L.getD 11 false=true) (hl9:L.getD 16 false=true) (h:AtX B g N v n p0 G SV FV b L W t8 t9 t10 t33 t34 t35 t36 t37 t38 t39 t40 t41 t42 t43 t44 t45 t46 t47 t48) (eb:t8= .pointer (some ⟨q,0,none⟩)) (hN:N<=q) (ea:t45= .tuple #[sv k2 n2 e0 e1 e2 e3,m,o]) (hq:Bk W q #[.int .i64 0, .int .i64 0, .slice none 0 0, .slice none 0 0, .slice none 0 0, .slice none 0 0] 30) (hx:∀ x,x≠q->W'.heap[x]?=W.heap[x]?) (hsz:W'.heap.size=W.heap.size) (hr:∀ p3,Rd B W g v n p3->Rd B W' g v n p3) (hu:Bk W' q #[.int .i64 k2, .int .i64 n2,e0,e1,e2,e3] 30):AtX B g N v n p0 G SV FV b (L.setIfInBounds 17 true) W' t8 t9 t10 t33 t34 t35 t36 t37 t38 t39 t40 t41 t42 t43 t44 t45 t46 t47 t48 where
 rd:=by obtain ⟨p3,h1,h2,h3⟩:=h.rd;exact ⟨p3,h1,by rw [fN (i:=17) (j:=4) (by decide),fN (i:=17) (j:=7) (by decide)];exact h2,hr p3 h3⟩
 s0:=fun e=>h.s0 (gS e)
 s1:=fun e=>h.s1 (gS e)
 s2:=fun e=>h.s2 (gS e)
 s3:=fun e=>h.s3 (gS e)
 s4:=fun e=>h.s4 (gS e)
 s5:=fun e=>h.s5 (gS e)
 s6:=fun e=>h.s6 (gS e)
 s7:=fun e=>h.s7 (gS e)
 s8:=fun e=>h.s8 (gS e)
 s9:=fun e=>(by obtain ⟨a0,a1,ow⟩:=h.s9 (gS e);exact ⟨a0,a1,oAz ow fun z e=>hx z (by obtain ⟨d,hd⟩:=time_blk ow e;exact bK hd hq (by decide))⟩)
 s10:=fun e=>(by obtain ⟨a0,a1,ow⟩:=h.s10 (gS e);exact ⟨a0,a1,oAz ow fun z e=>hx z (by obtain ⟨d,hd⟩:=time_blk ow e;exact bK hd hq (by decide))⟩)
 s11:=fun e=>(by obtain ⟨x,m,o,e1,an⟩:=h.s11 (gS e);exact ⟨x,m,o,e1,an.move (fun z hz hl=>⟨⟨hz.1,fun _=>hz.2 hl9⟩,hx z fun e=>hz.2 hl9 (by rw [eb,e])⟩) (Nat.le_of_eq hsz.symm)⟩)
 s12:=fun e=>h.s12 (gS e)
 s13:=fun e=>h.s13 (gS e)
 s14:=fun e=>h.s14 (gS e)
 s15:=fun e=>h.s15 (gS e)
 s16:=fun e=>h.s16 (gS e)
 s17:=fun _=>⟨q,k2,n2,e0,e1,e2,e3,m,o,eb,hN,ea,hu⟩
 s18:=fun e=>h.s18 (gS e)
 s19:=fun e=>h.s19 (gS e)
 c12:=fun e=>gU (h.c12 (gS e))
 c13:=fun e=>gU (h.c13 (gS e))
 c14:=fun e=>gU (h.c14 (gS e))
 c15:=fun e=>gU (h.c15 (gS e))
 c17:=fun e=>gU (hl)
 c18:=fun e=>gU (h.c18 (gS e))
 c19:=fun e=>gU (h.c19 (gS e))
 d:=fun _=>gU hl9
 z:=fun _ e2=>absurd e2 (by rw [gH (by omega)];decide)
theorem AtX.put18 {u:Value} (hl:L.getD 11 false=true) (h:AtX B g N v n p0 G SV FV b L W t8 t9 t10 t33 t34 t35 t36 t37 t38 t39 t40 t41 t42 t43 t44 t45 t46 t47 t48) (hu:∃ x m o:Value,t45= .tuple #[x,m,o]/\u=m):AtX B g N v n p0 G SV FV b (L.setIfInBounds 18 true) W t8 u t10 t33 t34 t35 t36 t37 t38 t39 t40 t41 t42 t43 t44 t45 t46 t47 t48 where
 rd:=by obtain ⟨p3,h1,h2,h3⟩:=h.rd;exact ⟨p3,h1,by rw [fN (i:=18) (j:=4) (by decide),fN (i:=18) (j:=7) (by decide)];exact h2,h3⟩
 s18:=fun _=>hu
 s0:=fun e=>h.s0 (gS e)
 s1:=fun e=>h.s1 (gS e)
 s2:=fun e=>h.s2 (gS e)
 s3:=fun e=>h.s3 (gS e)
 s4:=fun e=>h.s4 (gS e)
 s5:=fun e=>h.s5 (gS e)
 s6:=fun e=>h.s6 (gS e)
 s7:=fun e=>h.s7 (gS e)
 s8:=fun e=>h.s8 (gS e)
 s9:=fun e=>h.s9 (gS e)
 s10:=fun e=>h.s10 (gS e)
 s11:=fun e=>by obtain ⟨x,m,o,e1,an⟩:=h.s11 (gS e);exact ⟨x,m,o,e1,an.wk fun z hz _=>⟨hz.1,fun e=>hz.2 (gS e)⟩⟩
 s12:=fun e=>h.s12 (gS e)
 s13:=fun e=>h.s13 (gS e)
 s14:=fun e=>h.s14 (gS e)
 s15:=fun e=>h.s15 (gS e)
 s16:=fun e=>h.s16 (gS e)
 s17:=fun e=>h.s17 (gS e)
 s19:=fun e=>h.s19 (gS e)
 c12:=fun e=>gU (h.c12 (gS e))
 c13:=fun e=>gU (h.c13 (gS e))
 c14:=fun e=>gU (h.c14 (gS e))
 c15:=fun e=>gU (h.c15 (gS e))
 c17:=fun e=>gU (h.c17 (gS e))
 c18:=fun e=>gU (hl)
 c19:=fun e=>gU (h.c19 (gS e))
 d:=fun e=>gU (h.d (gS e))
 z:=fun e1 e2=>h.z (gS e1) (gT e2)
theorem AtX.put19 {u:Value} (hl:L.getD 11 false=true) (h:AtX B g N v n p0 G SV FV b L W t8 t9 t10 t33 t34 t35 t36 t37 t38 t39 t40 t41 t42 t43 t44 t45 t46 t47 t48) (hu:∃ x m o:Value,t45= .tuple #[x,m,o]/\u=o):AtX B g N v n p0 G SV FV b (L.setIfInBounds 19 true) W t8 t9 u t33 t34 t35 t36 t37 t38 t39 t40 t41 t42 t43 t44 t45 t46 t47 t48 where
 rd:=by obtain ⟨p3,h1,h2,h3⟩:=h.rd;exact ⟨p3,h1,by rw [fN (i:=19) (j:=4) (by decide),fN (i:=19) (j:=7) (by decide)];exact h2,h3⟩
 s19:=fun _=>hu
 s0:=fun e=>h.s0 (gS e)
 s1:=fun e=>h.s1 (gS e)
 s2:=fun e=>h.s2 (gS e)
 s3:=fun e=>h.s3 (gS e)
 s4:=fun e=>h.s4 (gS e)
 s5:=fun e=>h.s5 (gS e)
 s6:=fun e=>h.s6 (gS e)
 s7:=fun e=>h.s7 (gS e)
 s8:=fun e=>h.s8 (gS e)
 s9:=fun e=>h.s9 (gS e)
 s10:=fun e=>h.s10 (gS e)
 s11:=fun e=>by obtain ⟨x,m,o,e1,an⟩:=h.s11 (gS e);exact ⟨x,m,o,e1,an.wk fun z hz _=>⟨hz.1,fun e=>hz.2 (gS e)⟩⟩
 s12:=fun e=>h.s12 (gS e)
 s13:=fun e=>h.s13 (gS e)
 s14:=fun e=>h.s14 (gS e)
 s15:=fun e=>h.s15 (gS e)
 s16:=fun e=>h.s16 (gS e)
 s17:=fun e=>h.s17 (gS e)
 s18:=fun e=>h.s18 (gS e)
 c12:=fun e=>gU (h.c12 (gS e))
 c13:=fun e=>gU (h.c13 (gS e))
 c14:=fun e=>gU (h.c14 (gS e))
 c15:=fun e=>gU (h.c15 (gS e))
 c17:=fun e=>gU (h.c17 (gS e))
 c18:=fun e=>gU (h.c18 (gS e))
 c19:=fun e=>gU (hl)
 d:=fun e=>gU (h.d (gS e))
 z:=fun e1 e2=>h.z (gS e1) (gT e2)
theorem AtX.fin (h:AtX B g N v n p0 G SV FV b L W t8 t9 t10 t33 t34 t35 t36 t37 t38 t39 t40 t41 t42 t43 t44 t45 t46 t47 t48) (hall:∀ j,j<20->L.getD j false=true):SeX B g N v n p0 (2) G W t8 t10:=by
 obtain ⟨p3,h1,h2,h3⟩:=h.rd;rw [hall 4 (by omega),hall 7 (by omega)] at h2;obtain ⟨x,m,o,ea,an⟩:=h.s11 (hall 11 (by omega));obtain ⟨q,k2,n2,e0,e1,e2,e3,m',o',eb,hN,ea',bq⟩:=h.s17 (hall 17 (by omega));obtain ⟨x2,m2,o2,ea2,eo⟩:=h.s19 (hall 19 (by omega));rw [ea] at ea' ea2;simp only [Value.tuple.injEq,Array.mk.injEq,List.cons.injEq,and_true] at ea' ea2;obtain ⟨rfl,rfl,rfl⟩:=ea';obtain ⟨rfl,rfl,rfl⟩:=ea2;exact ⟨q,k2,n2,e0,e1,e2,e3,p3,eb,hN,bq,by rw [eo];exact an.wk fun z hz _=>⟨hz.1,fun e=>hz.2 (hall 16 (by omega)) (by rw [eb,e])⟩,h1,by simp only [fu] at h2;omega,h3⟩
end
def AtXI (B g N:Nat) (v:Value) (n:Nat) (p0:Int) (G:SS->Prop) (SV FV:Value) (b:Nat) (f0 f1 f2 y0 y1 y11 y12 y13 y14 y51 y52 y53:Value) (W0:World) (L:Array Bool) (a:Act) (W:World):Prop :=
 L.size=20/\Bx g W0 W/\∃ z7 z15 z16 z17 z18 z19 z20 z21 z22 z23 z24 z25 z26 z27 z28 z29 z30 z31 z32 z49 z50 t8 t9 t10 t33 t34 t35 t36 t37 t38 t39 t40 t41 t42 t43 t44 t45 t46 t47 t48:Value,
  a={ tmps:=#[y0,y1,f0,f1, .pointer (some ⟨g,0,none⟩), .pointer (some ⟨b,0,none⟩),f2,z7,t8,t9,t10,y11,y12,y13,y14,z15,z16,z17,z18,z19,z20,z21,z22,z23,z24,z25,z26,z27,z28,z29,z30,z31,z32,t33,t34,t35,t36,t37,t38,t39,t40,t41,t42,t43,t44,t45,t46,t47,t48,z49,z50,y51,y52,y53],defers:=[] }/\AtX B g N v n p0 G SV FV b L W t8 t9 t10 t33 t34 t35 t36 t37 t38 t39 t40 t41 t42 t43 t44 t45 t46 t47 t48
theorem AtXI_next {B g N:Nat} {v:Value} {n:Nat} {p0:Int} {G:SS->Prop} {SV FV:Value} {b:Nat} {f0 f1 f2 y0 y1 y11 y12 y13 y14 y51 y52 y53:Value} {L:Array Bool} {W':World} {t8 t9 t10 t33 t34 t35 t36 t37 t38 t39 t40 t41 t42 t43 t44 t45 t46 t47 t48:Value} {i:Nat} {W0:World} {z7 z15 z16 z17 z18 z19 z20 z21 z22 z23 z24 z25 z26 z27 z28 z29 z30 z31 z32 z49 z50:Value} (hLs:L.size=20) (hx:Bx g W0 W') (S:AtX B g N v n p0 G SV FV b (L.setIfInBounds i true) W' t8 t9 t10 t33 t34 t35 t36 t37 t38 t39 t40 t41 t42 t43 t44 t45 t46 t47 t48) :
  AtXI B g N v n p0 G SV FV b f0 f1 f2 y0 y1 y11 y12 y13 y14 y51 y52 y53 W0 (L.setIfInBounds i true) { tmps:=#[y0,y1,f0,f1, .pointer (some ⟨g,0,none⟩), .pointer (some ⟨b,0,none⟩),f2,z7,t8,t9,t10,y11,y12,y13,y14,z15,z16,z17,z18,z19,z20,z21,z22,z23,z24,z25,z26,z27,z28,z29,z30,z31,z32,t33,t34,t35,t36,t37,t38,t39,t40,t41,t42,t43,t44,t45,t46,t47,t48,z49,z50,y51,y52,y53],defers:=[] } W' :=
 ⟨by simp [hLs],hx,_,_,_,_,_,_,_,_,_,_,_,_,_,_,_,_,_,_,_,_,_,_,_,_,_,_,_,_,_,_,_,_,_,_,_,_,_,_,_,_,rfl,S⟩
attribute [local go_sem ↓] Go.wp_at_zero Go.wp_at_succ
structure DSs (c:Int) (s:SS):Prop where
 sm:s.t.sm
 pok:pokB s.t 3=true
 two:s.K.length=2
 abs:∀ l∈s.K,absum l<=c
 few:s.f.length<=8
 dl:s.d.length<=400
theorem specSessNew_ans {t:PT} {B:Nat} {s:Value} {w:World} (hsm:t.sm) (hp:pokB t 3=true) (hs:KdS B w t s) :
  Calls Tryz.prog 38 #[pl t.k t.n s] w fun e w'=>∃ (s':SS) (sp si sf sd:Value),e= .returned (.tuple #[sv s'.t.k s'.t.n sp si sf sd, .bool true])/\DSs 0 s'/\SesN w' (fun z=>w.heap.size+2<=z) sp si sf sd s'/\Below w.heap.size w w':=by
 refine (specSessNew_yes (pok_more hp) hs).mono ?_;rintro e w1 ⟨sp,si,sf,rfl,hS,hb⟩;exact ⟨newV t,sp,si,sf,nilV,rfl,⟨hsm,hp,rfl,fun l hl=>by simp [newV] at hl;subst hl;simp [absum],by simp [newV],by simp [newV]⟩,hS,hb⟩
theorem specSessOn_ans {c:Int} {s:SS} {f:LI} {sp si sf sd fv:Value} {w:World} (hd:DSs c s) (h:Ses w sp si sf sd s) (hf:Ts w fv f) (hl:f.length<=1000) :
  Calls Tryz.prog 23 #[sv s.t.k s.t.n sp si sf sd,fv] w fun e w'=>∃ x m o:Value,e= .returned (.tuple #[x,m,o])/\AnsX (DSs c) w' (fun z=>w.heap.size+2<=z) x o/\Below w.heap.size w w':=by
 rcases hn:onS s f with _|⟨s',m⟩
 ·refine (specSessOn_no hn h hf).mono ?_;rintro e w1 ⟨sp,si,sf,sd,mv,rfl,hS,hR,hb⟩;exact ⟨_,_,_,rfl,⟨zeroS,sp,si,sf,sd,false,rfl,rfl,(fun e=>by cases e),hS⟩,hb⟩
 ·obtain ⟨r,h1,h2,h3,rfl,rfl⟩:=onS_some.1 hn;refine (specSessOn_yes h1 h2 h3 hl h hf).mono ?_;rintro e w1 ⟨sp,si,sf,sd,mv,rfl,hS,hR,hb⟩;exact ⟨_,_,_,rfl,⟨⟨s.t,s.K,f,aheadL f r⟩,sp,si,sf,sd,true,rfl,rfl,fun _=>⟨hd.sm,hd.pok,hd.two,hd.abs,fok_len8 h2,Nat.le_trans (ahead_len f r) (flowR_len (allS_some.1 h1).2.1)⟩,hS⟩,hb⟩
theorem putK_abs {K:List (List Rw)} {i:Nat} {l:List Rw} {c d:Int} (hK:∀ x∈K,absum x<=c) (hc:0<=c) (hl:absum l<=d) (hd:0<=d):∀ x∈putK K i l,absum x<=c+d:=by
 intro x hx;unfold putK at hx
 rcases List.mem_or_eq_of_mem_set hx with h|h
 ·have:=hK x h;omega
 ·subst h;have h1:=sum_absR (K.getD i []++l);rw [absum_append] at h1;have h2:absum (K.getD i [])<=c:=by
   rw [List.getD_eq_getElem?_getD]
   rcases hq:K[i]? with _|y
   ·simp [absum];exact hc
   ·exact hK y (List.mem_of_getElem? hq)
  omega
theorem specSessIn_ans {c:Int} {s:SS} {l:List Rw} {sp si sf sd lv:Value} {w:World} (i:Int) (hc:0<=c) (hd:DSs c s) (h:Ses w sp si sf sd s) (hl:Rs w lv l) (ha:absum l<=9) :
  Calls Tryz.prog 125 #[sv s.t.k s.t.n sp si sf sd, .int .i64 i,lv] w fun e w'=>∃ x o:Value,e= .returned (.tuple #[x,o])/\AnsX (DSs (c+9)) w' (fun z=>w.heap.size+2<=z) x o/\Below w.heap.size w w':=by
 refine (specSessIn_any i h hl).mono ?_;rintro e w1 (⟨s',hs',sp,si,sf,sd,rfl,hS,hb⟩|⟨hn,sp,si,sf,sd,rfl,hS,hb⟩)
 ·have e':s'=⟨s.t,putK s.K i.toNat l,s.f,s.d⟩:=by
   unfold inS at hs'
   split at hs'
   ·dsimp only at hs'
    split at hs'
    ·exact (Option.some.inj hs').symm
    ·cases hs'
   ·cases hs'
  subst e';exact ⟨_,_,rfl,⟨⟨s.t,putK s.K i.toNat l,s.f,s.d⟩,sp,si,sf,sd,true,rfl,rfl,fun _=>⟨hd.sm,hd.pok,by simpa [putK] using hd.two,putK_abs hd.abs hc ha (by decide),hd.few,hd.dl⟩,hS⟩,hb⟩
 ·exact ⟨_,_,rfl,⟨zeroS,sp,si,sf,sd,false,rfl,rfl,(fun e=>by cases e),hS⟩,hb⟩
theorem l71Later_any {B:Nat} {w:World} {g:Nat} {v:Value} {n:Nat} {p:Int} {k m:Int} {sp si sf sd:Value} {f:LI} (h:Rd B w g v n p) (hp:0<=p) (hp':p<=700000) (hf:∀ V,Bx g w V->Ts V sf f) (hsp:∃ a i c,sp= .slice a i c) (hsi:∃ a i c,si= .slice a i c) (hsd:∃ a i c,sd= .slice a i c) :
  Calls Tryz.prog 75 #[.pointer (some ⟨g,0,none⟩),sv k m sp si sf sd] w fun e w'=>∃ (o:Value) (f':LI),e= .returned o/\f'.length<=1000/\Own w' w.heap.size o f'/\(∃ p':Int,p<=p'/\p'<=p+500/\Rd B w' g v n p')/\Bx g w w':=by
 obtain ⟨a0,i0,c0,rfl⟩:=hsp;obtain ⟨a1,i1,c1,rfl⟩:=hsi;obtain ⟨a3,i3,c3,rfl⟩:=hsd;have HF:Hid (∀ V,Bx g w V->Ts V sf f):=hf;obtain ⟨a2,c2,rfl,-⟩:=hf w (Bx.refl _ _);have hg:=h.blk.lt;have bA:Bk (w.alloc (.cells (sc k m (.slice a0 i0 c0) (.slice a1 i1 c1) (.slice a2 f.length c2) (.slice a3 i3 c3)) 30)) w.heap.size (sc k m (.slice a0 i0 c0) (.slice a1 i1 c1) (.slice a2 f.length c2) (.slice a3 i3 c3)) 30:=Bk.new _ _ rfl;have hx0:Bx g w (w.alloc (.cells (sc k m (.slice a0 i0 c0) (.slice a1 i1 c1) (.slice a2 f.length c2) (.slice a3 i3 c3)) 30)):=(Bx.refl _ _).alloc _;have h0:=h.keepb (bAz (Below.refl _ _) (.cells (sc k m (.slice a0 i0 c0) (.slice a1 i1 c1) (.slice a2 f.length c2) (.slice a3 i3 c3)) 30));have hz0:w.heap.size<=(w.alloc (.cells (sc k m (.slice a0 i0 c0) (.slice a1 i1 c1) (.slice a2 f.length c2) (.slice a3 i3 c3)) 30)).heap.size:=by simp
 clear h hf;go_enter Tryz.func75,Tryz.ntmps75;go_wp2_with fail;generalize (w.alloc (.cells (sc k m (.slice a0 i0 c0) (.slice a1 i1 c1) (.slice a2 f.length c2) (.slice a3 i3 c3)) 30))=W0 at *;refine (l71Front_any h0 hp (by omega)).mono ?_;rintro e w1 ⟨o1,f1,rfl,hf1,own1,⟨p1,hp1,hp1',hr1⟩,hx1⟩;have bA1:=bA.keepx hx1 (by omega);have hx01:=hx0.trans hx1;have own1':Own w1 w.heap.size o1 f1:=oLz own1 hz0;clear own1 bA hx0 hx1 h0;go_wp2_with fail;refine (pA hr1 (by omega) (by omega) _ (by omega) (by omega)).mono ?_;rintro e w2 ⟨j,rfl,hj0,hj1,hr2,hx2⟩;have bA2:=bA1.keepx hx2 (by omega);have hx02:=hx01.trans hx2;have own2:Own w2 w.heap.size o1 f1:=oX own1' hx2 (by omega);have hz2:=hx02.size;clear hr1 bA1 hx01 own1' hx2
 by_cases hj:j=0
 ·subst hj;go_wp2_with fail;go_ret;exact ⟨_,f1,rfl,by omega,own2,⟨p1+1,by omega,by omega,hr2⟩,hx02⟩
 ·have hjb:(j==0)=false:=by simpa using hj
  obtain ⟨x0,x1,x2,x3,x4,x5⟩:=bA2.six;go_wp2_with fail;refine (specBoth_any _ _ f f1 _ (HF.out _ hx02) (Own.ts own2 (by omega))).mono ?_;rintro e w3 ⟨o3,rfl,own3,hb3⟩;have hx03:=hx02.trans (Bx.of_below hb3);have hr3:=hr2.keepb hb3;have hl3:=fok_len8 (both_fok f f1);clear x0 x1 x2 x3 x4 x5;go_wp2_with fail;go_ret;exact ⟨_,_,rfl,by omega,oLz own3 hz2,⟨p1+1,by omega,by omega,hr3⟩,hx03⟩
end Go.Proofs.YtbdpcngcbnoioaaGreatDoor
