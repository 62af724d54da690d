import Derived.Test.YtbdpcngcbnoioaaGreatDoorGm1
import Derived.Test.YtbdpcngcbnoioaaGreatDoorGrw
import Derived.Deep.AppendSrc
import Derived.Test.YtbdpcngcbnoioaaGreatDoorGa8
set_option maxRecDepth 100000
set_option maxHeartbeats 8000000
namespace Go.Proofs.YtbdpcngcbnoioaaGreatDoor
open Go.RowKit
open Go.ChangeMaps (setBlock)
theorem zeroI:∀ w:World,(zeroValue 3).run Tryz.prog w= .ok (.int .i64 0) w:=Tryz.zeroValue3
theorem spotOf_any (K V A B D:Int) (w:World) :
  Calls Tryz.prog 202 #[rv K V A B D] w fun e w'=>e= .returned (spV ((K,V),(A,B)))/\Below w.heap.size w w':=by
 obtain ⟨y0,y1,y2,y3,y4⟩:=(Bk.new (w:=w) #[.int .i64 K, .int .i64 V, .int .i64 A, .int .i64 B, .int .i64 D] 55 rfl).five;go_enter Tryz.func202,Tryz.ntmps202;go_wp2_with fail;refine bodyPost_ret (by simp [results,Tryz.results202,go_sem];try rfl) rfl ?_;exact ⟨rfl,bAz (bAz (Below.refl w.heap.size w) _) _⟩
theorem rowsIn_any (mb:Nat) (M l:List (Sp×Int)) (W:World) (hmap:MapIs spV spOk W mb M) (hT:∀ s,tot M s=tot l s) (hml:M.length<=1000000) :
  Calls Tryz.prog 203 #[.map (some mb)] W fun e w'=>∃ o:Value,e= .returned o/\OwnR w' W.heap.size o (sumL ltS l)/\Below W.heap.size W w':=by
 have HT2:Hid (∀ s,tot M s=tot l s):=hT;have hmt:=hmap.lt;clear hT;go_enter Tryz.func203,Tryz.ntmps203
 go_wp2_with (at_range;refine wp_range _ rfl _ _ rfl _ _ Tryz.underlying231 _ M rfl hmap ?_;intro w0 hrg hb0 hs0)
 go_frame
 have hbw0:=hb0;clear hmap hb0
 go_loopw [3] (fun o wr=>∃ (done left L:List (Sp×Int)),Ranging spV spOk wr mb W.heap.size M left/\M.Perm (done++left)/\L.Perm (done.filter fun r=>decide (r.2≠0))/\OwnR wr (W.heap.size+1) o L/\W.heap.size+1<=wr.heap.size/\Below W.heap.size W wr) (fun _ wr=>leftN wr mb W.heap.size)
 case atStart=>exact ⟨[],M,[],hrg,by simp,by simp,oN _ _ _ _ _,by omega,hbw0⟩
 case round =>
  clear hrg hbw0 hs0;obtain ⟨done,left,L,hrg,hpm,hpl,hown,hsz,hb⟩:=hrel;have HPM:=(show Hid _ from hpm);have HPL:=(show Hid _ from hpl);have HO:Hid (OwnR wr (W.heap.size+1) u3 L):=hown;have hcnt:=hrg.count;have hLM:L.length<=M.length:=by
   have h1:=hpl.length_eq;have h2:=List.length_filter_le (fun r:Sp×Int=>decide (r.2≠0)) done;have h3:=hpm.length_eq;simp at h3;omega
  have hM:=(show Hid _ from hrg.nodup);clear hpm hpl hown
  go_wp2_with (at_next;refine wp_next _ rfl _ rfl _ _ M left rfl hrg ?_ ?_)
  ·intro hz;subst hz;have O1:OwnR wr (W.heap.size+1) u3 L:=HO.out;have hdone:L.Perm (M.filter fun r=>decide (r.2≠0)):=by
    have h1:=HPM.out;rw [List.append_nil] at h1;exact HPL.out.trans (h1.filter _).symm
   have HD:=(show Hid _ from hdone);clear hdone HO HPM HPL hcnt;have hll:L.length<=2097152:=by omega
   go_wp2_with fail;refine (sortR_any O1 hll hsz).mono ?_;rintro e w2 ⟨rfl,l',hp,hsrt,own2,hb2⟩;have hfin:l'=sumL ltS l:=collected ltS_ord hM.out HT2.out HD.out hp hsrt;have hbw:Below W.heap.size W w2:=hb.trans (hb2.mono (by omega));have O2:Hid (OwnR w2 (W.heap.size+1) u3 l'):=own2;clear own2 hp hsrt O1;go_wp2_with fail;go_ret;refine ⟨_,rfl,?_,hbw⟩;rw [<- hfin];exact oL O2.out (by omega)
  ·intro K V A B D left' w1 hp hrg1 hen hx hs1 hl1;have O1:OwnR w1 (W.heap.size+1) u3 L:=ownK_beside HO.out hx (fun q e=>by have:=oB HO.out q e;omega);have hb1:Below W.heap.size W w1:=hx.below hb hb.size (by omega);have hsz1:W.heap.size+1<=w1.heap.size:=by omega
   have hcnt1:=hrg1.count;clear hx hrg hb HO hs1
   by_cases hD:D=0
   ·subst hD;have HZ:=(show Hid _ from collect_no HPM.out hp HPL.out rfl);have hrg2:=hrg1.keep (bAz (Below.refl _ w1) (.cells #[.int .i64 K, .int .i64 V, .int .i64 A, .int .i64 B] 233));have O2:Hid (OwnR (w1.alloc (.cells #[.int .i64 K, .int .i64 V, .int .i64 A, .int .i64 B] 233)) (W.heap.size+1) u3 L):=O1.alloc _;clear O1 HPM HPL hp;go_wp2_with fail;go_roundw
    case rel=>exact ⟨_,left',L,hrg2,HZ.out.1,HZ.out.2,O2.out,by simp;omega,bAz hb1 _⟩
    case measure=>rw [hrg2.count];omega
   ·have nD:(D==0)=false:=by simpa using hD
    have HZ:=(show Hid _ from collect_yes HPM.out hp HPL.out hD);clear HPM HPL hp
    go_wp2_with (at_builtin;refine appR _ rfl _ _ rfl (W.heap.size+1) _ _ rfl ((O1.alloc _).alloc _) _ _ _ _ _ _ rfl (Bk.new _ _ (by simp)) (by omega) (by simp;omega) ?_;intro g3 cap3 w3 own3 hgrow hlg)
    have hrg3:=(hrg1.keep (bAz (bAz (Below.refl _ w1) (.cells #[.int .i64 K, .int .i64 V, .int .i64 A, .int .i64 B] 233)) (.cells #[.int .i64 K, .int .i64 V, .int .i64 A, .int .i64 B, .int .i64 D] 55))).grew hgrow (fun q e=>by have:=oB O1 q e;omega);have hb3:Below W.heap.size W w3:=Below.grew (bAz (bAz hb1 _) _) hgrow (by simp;omega) (fun q e=>by have:=oB O1 q e;omega);have hs3:W.heap.size+1<=w3.heap.size:=by have:=hgrow.size;simp at this;omega
    go_roundw
    case rel=>exact ⟨_,left',L++[(((K,V),(A,B)),D)],hrg3,HZ.out.1,HZ.out.2,own3,hs3,hb3⟩
    case measure=>rw [hrg3.count];omega
theorem tot_entry {M M' l:List Rw} {k:Nat} {s0:Sp} {D:Int} (hr:l[k]?=some (s0,D)) (HT:∀ s,tot M s=tot (l.take k) s) (ht':∀ s,tot M' s=if s0=s then tot M s0+D else tot M s) (s:Sp):tot M' s=tot (l.take (k+1)) s:=by
 rw [ht',tS hr,tot_snoc]
 by_cases e:s0=s
 ·rw [if_pos e,if_pos e,<-HT,e]
 ·rw [if_neg e,if_neg e,HT];omega
theorem setBlock_atS {W:World} {b k:Nat} {o:Obj} (h:k≠b):(setBlock W b o).heap[k]?=W.heap[k]?:=by
 simp only [setBlock,Array.getElem?_setIfInBounds];rw [if_neg (Ne.symm h)]
theorem cell_setBlockS {W:World} {b g i:Nat} {o:Obj} (h:g≠b):(setBlock W b o).cell? ⟨g,i,none⟩=W.cell? ⟨g,i,none⟩:=World.cell?_of_block (w:=W) (setBlock_atS h)
theorem sumUp_any (v:Value) (l:List Rw) (w:World) (h:Rs w v l) (hl:l.length<=1000000) (ha:absum l<=2305843009213693952) (hk:∀ r∈l,spOk r.1) :
  Calls Tryz.prog 155 #[v] w fun e w'=>∃ o:Value,e= .returned o/\OwnR w' w.heap.size o (sumL ltS l)/\Below w.heap.size w w':=by
 have HA:Hid _:=ha;have HK:Hid _:=hk;obtain ⟨a,cap,rfl,hc,hm,hn,hcells⟩:=Rs.open h;unfold maxLen at hm;have HC:=(show Hid _ from hcells);clear hcells h ha hk;have hmm:=@run_makeMap Tryz.prog;go_enter Tryz.func155,Tryz.ntmps155;go_wp2_with fail;have m0:MapIs spV spOk (w.alloc (.map #[] 0)) w.heap.size []:=MapIs.new w rfl;have hb0:Below w.heap.size w (w.alloc (.map #[] 0)):=bAz (Below.refl _ _) _;clear hmm
 go_loopw [9] (fun i wr=>∃ (k:Nat) (M:List (Sp×Int)),k<=l.length/\i= .int .i64 k/\MapIs spV spOk wr w.heap.size M/\(∀ s,tot M s=tot (l.take k) s)/\M.length<=k/\Below w.heap.size w wr) (fun i _=>l.length-(intOf i).toNat)
 case atStart=>exact ⟨0,[],by omega,rfl,m0,fun s=>by simp,by simp,hb0⟩
 case round =>
  clear m0 hb0;obtain ⟨k,M,hkl,rfl,hmap,htot,hML,hb⟩:=hrel;have HT:=(show Hid (∀ s,tot M s=tot (l.take k) s) from htot);clear htot
  by_cases hlt:k<l.length
  ·obtain ⟨g,off,K,V,A,B,D,rfl,hg,hr,c0,c1,c2,c3,c4⟩:=HC.out k hlt;have d0:=cB hb c0;have d1:=cB hb c1;have d2:=cB hb c2;have d3:=cB hb c3;have d4:=cB hb c4;have HR:=(show Hid (l[k]?=some (((K,V),(A,B)),D)) from hr);have hok:=HK.out _ (List.mem_of_getElem? hr);dsimp only at hok;clear c0 c1 c2 c3 c4 hr;have ik:((k:Int)<(l.length:Int)):=by omega
   have bt0:=Bk.new (w:=wr) #[.int .i64 K, .int .i64 V, .int .i64 A, .int .i64 B, .int .i64 D] 55 rfl;have hbt:Below wr.heap.size wr (wr.alloc (.cells #[.int .i64 K, .int .i64 V, .int .i64 A, .int .i64 B, .int .i64 D] 55)):=bAz (Below.refl _ _) _;have hmap':=hmap.keep hbt;have hb':=bSz hb hbt;have hmt:=hmap.lt;have hne:wr.heap.size≠w.heap.size:=by omega
   have hsum : -4611686018427387904<=tot M ((K,V),(A,B))+D/\tot M ((K,V),(A,B))+D<=4611686018427387904:=by
    have h1:=tot_abs (l.take (k+1)) ((K,V),(A,B));rw [tS HR.out,tot_snoc,if_pos rfl,<-HT.out] at h1;have h2:=absum_take l (k+1);rw [tS HR.out] at h2;have:=HA.out;omega
   go_upto_region 5 with fail
   clear d0 d1 d2 d3 d4 hmap hb hbt;generalize wr.heap.size=tb at *;generalize World.alloc _ _=wt at *;have hbP:Below wt.heap.size wt wt.drew:=(Below.refl _ _).drew;obtain ⟨hs1,hs2⟩:=hsum;have HX:Hid (∀ V',Below wt.heap.size wt V'->V'.cell? ⟨tb,0,none⟩=some (.int .i64 K)/\V'.cell? ⟨tb,1,none⟩=some (.int .i64 V)/\V'.cell? ⟨tb,2,none⟩=some (.int .i64 A)/\V'.cell? ⟨tb,3,none⟩=some (.int .i64 B)/\V'.cell? ⟨tb,4,none⟩=some (.int .i64 D)):=fun V' hV=>(bt0.keep hV).five;have HXS:Hid (∀ V' o,Below wt.heap.size wt V'->(setBlock V' w.heap.size o).cell? ⟨tb,0,none⟩=some (.int .i64 K)/\(setBlock V' w.heap.size o).cell? ⟨tb,1,none⟩=some (.int .i64 V)/\(setBlock V' w.heap.size o).cell? ⟨tb,2,none⟩=some (.int .i64 A)/\(setBlock V' w.heap.size o).cell? ⟨tb,3,none⟩=some (.int .i64 B)/\(setBlock V' w.heap.size o).cell? ⟨tb,4,none⟩=some (.int .i64 D)):=fun V' o hV=>by
    rw [cell_setBlockS hne,cell_setBlockS hne,cell_setBlockS hne,cell_setBlockS hne,cell_setBlockS hne];exact HX.out V' hV
   have HLK:Hid (∀ V',Below wt.heap.size wt V'->(Instr.lookup 231 (.map (some w.heap.size)) (spV ((K,V),(A,B))) false).run Tryz.prog V'= .ok (.int .i64 (tot M ((K,V),(A,B)))) V'):=fun V' hV=>MapIs.look (hmap'.keep hV) encS Tryz.underlying231 zeroI hok;have HEN:Hid (∀ V',Below wt.heap.size wt V'->∃ (st:Nat) (o1 o2:Obj) (M':List (Sp×Int)),(Instr.mapEntry 231 (.map (some w.heap.size)) (spV ((K,V),(A,B)))).run Tryz.prog V'= .ok (.tuple #[.int .i64 (tot M ((K,V),(A,B))), .int .i64 (st:Int)]) (setBlock V' w.heap.size o1) /\
     (Instr.lookup 231 (.map (some w.heap.size)) (spV ((K,V),(A,B))) false).run Tryz.prog (setBlock V' w.heap.size o1)= .ok (.int .i64 (tot M ((K,V),(A,B)))) (setBlock V' w.heap.size o1) /\
     (Instr.entryStore 231 (.map (some w.heap.size)) (.int .i64 (st:Int)) (.int .i64 (tot M ((K,V),(A,B))+D))).run Tryz.prog (setBlock V' w.heap.size o1)= .ok () (setBlock V' w.heap.size o2) /\
     MapIs spV spOk (setBlock V' w.heap.size o2) w.heap.size M'/\(∀ s,tot M' s=tot (l.take (k+1)) s)/\M'.length<=M.length+1/\Below w.heap.size w (setBlock V' w.heap.size o2)):=fun V' hV=>by
    obtain ⟨st,o1,o2,M',e1,e2,e3,hM',ht',hl'⟩:=MapIs.enter (hmap'.keep hV) encS Tryz.underlying231 zeroI hok (tot M ((K,V),(A,B))+D);exact ⟨st,o1,o2,M',e1,e2,e3,hM',tot_entry HR.out HT.out ht',hl',below_setBlock (bSz hb' hV) (Nat.le_refl _)⟩
   clear hmap' bt0;generalize hT:tot M ((K,V),(A,B))=T at *;clear hT;have iw:IntKind.i64.wrap (T+D)=T+D:=by rw [IntKind.wrap_i64];omega
   go_wp2_with fail
   go_region_held3 (fun V'=>V'.cell? ⟨tb,0,none⟩=some (.int .i64 K)/\V'.cell? ⟨tb,1,none⟩=some (.int .i64 V)/\V'.cell? ⟨tb,2,none⟩=some (.int .i64 A)/\V'.cell? ⟨tb,3,none⟩=some (.int .i64 B)/\V'.cell? ⟨tb,4,none⟩=some (.int .i64 D))
    (first|exact HXS.out _ _ hq|exact HX.out _ hq|exact HX.out _ hbP)
    (first
     | (go_at_call 202;refine (spotOf_any K V A B D _).mono ?_;rintro e wc ⟨rfl,hbc⟩;have hq:Below wt.heap.size wt wc:=bSz hbP hbc;have e0:=HLK.out _ hq;obtain ⟨st,o1,o2,M',e1,e2,e3,hM',HN,hl',hb2⟩:=HEN.out _ hq))
   all_goals
    clear e0 e1 e2 e3;generalize setBlock _ w.heap.size o2=w2 at *;go_wp2_with fail;go_roundw
    case rel=>exact ⟨k+1,M',by omega,by go_num,hM',HN,by omega,hb2⟩
    case measure=>simp [intOf];omega
  ·obtain rfl:k=l.length:=by omega
   have HT2:Hid (∀ s,tot M s=tot l s):=fun s=>by rw [HT.out,List.take_length]
   have hbs:=hb.size;clear HT HC HK;go_wp2_with fail;refine (rowsIn_any w.heap.size M l wr hmap HT2.out (by omega)).mono ?_;rintro e w2 ⟨o,rfl,own2,hb2⟩;have O2:Hid (OwnR w2 wr.heap.size o (sumL ltS l)):=own2;clear own2;go_wp2_with fail;go_ret;exact ⟨_,rfl,oL O2.out hbs,bSz hb hb2⟩
theorem rw_sp {r:Rw} (h:rwOkB r=true):spOk r.1:=by
 simp only [rwOkB,inB,okB,Bool.and_eq_true,decide_eq_true_eq] at h;unfold spOk fit63;omega
theorem batchOf_any (v:Value) (l:List Rw) (w:World) (h:Rs w v l) (hl:l.length<=1000000) (ha:absum l<=2305843009213693952) (hk:∀ r∈l,spOk r.1) :
  Calls Tryz.prog 87 #[v] w fun e w'=>∃ o:Value,e= .returned o/\OwnR w' w.heap.size o (sumF l)/\Below w.heap.size w w':=by
 have hsl:=sumL_len ltS l;have H:=sumUp_any v l w h hl ha hk;clear h hk ha;go_enter Tryz.func87,Tryz.ntmps87;go_wp2_with fail;refine H.mono ?_;rintro e w1 ⟨o1,rfl,own1,hb1⟩;have R1:=OwnR.rs own1 (by omega);have O1:Hid (OwnR w1 w.heap.size o1 (sumL ltS l)):=own1;clear own1 H;cases hro:rokB (sumL ltS l)
 ·have HF:Hid (sumF l=[]):=sumF_no hro;go_wp2_with fail;refine (iR hro R1).mono ?_;rintro e w2 ⟨rfl,hb2⟩;go_wp2_with fail;go_ret;refine ⟨_,rfl,?_,bSz hb1 hb2⟩;rw [HF.out];exact oN _ _ _ _ _
 ·have HF:Hid (sumF l=sumL ltS l):=sumF_ok hro;go_wp2_with fail;refine (iR hro R1).mono ?_;rintro e w2 ⟨rfl,hb2⟩;have O2:Hid (OwnR w2 w.heap.size o1 (sumL ltS l)):=oK O1.out hb2;go_wp2_with fail;go_ret;refine ⟨_,rfl,?_,bSz hb1 hb2⟩;rw [HF.out];exact O2.out
open Go.Shelf
theorem rs_src {w:World} {v:Value} {l:List Rw} (h:Rs w v l):∃ (ad:Option Addr) (cap:Nat),v= .slice ad l.length cap/\(l≠[]->∃ g off,ad=some ⟨g,off,none⟩/\∀ j u,(l.flatMap rowC)[j]?=some u->w.cell? ((⟨g,off,none⟩:Addr).add j)=some u):=by
 obtain ⟨a,cap,rfl,hc,hm,hn,h4⟩:=h;refine ⟨a,cap,rfl,fun hne=>?_⟩;have h0:0<l.length:=List.length_pos_iff.2 hne;obtain ⟨g,off,rfl,hg,_⟩:=h4 0 l[0] (List.getElem?_eq_getElem h0);refine ⟨g,off,rfl,fun j u hj=>?_⟩;have hlt:j<l.length*5:=by
  have:=(List.getElem?_eq_some_iff.1 hj).1
  rwa [flat_len rowC_len] at this
 have hq:j / 5<l.length:=by omega
 obtain ⟨g',off',e,_,c⟩:=h4 (j / 5) l[j / 5] (List.getElem?_eq_getElem hq);simp only [Option.some.injEq,Addr.mk.injEq] at e;obtain ⟨rfl,rfl,_⟩:=e;have hc2:=c (j%5) (Nat.mod_lt _ (by omega));have e2:=flat_get rowC_len l (List.getElem?_eq_getElem hq) (j:=j%5) (Nat.mod_lt _ (by omega));have e3:j / 5*5+j%5=j:=by omega
 rw [e3] at e2;rw [Nat.add_assoc,e3] at hc2;rw [Go.WideShapes.add_plain];rw [hc2,<-e2,hj]
theorem onesRs (l:List Rw):∀ u∈l.flatMap rowC,u.oneCell'=true:=by
 intro u hu;obtain ⟨r,_,hr⟩:=List.mem_flatMap.1 hu;exact onesR r u hr
theorem src_zero {w:World} (ad:Option Addr) (c:Nat):_root_.Go.Src Tryz.prog 5 28 (.slice ad 0 c) 0 [] w:=by
 cases ad with
 | none=>exact _root_.Go.Src.ofNil w Tryz.underlying28 c
 | some a=>exact _root_.Go.Src.ofSlice w Tryz.underlying28 a 0 c [] rfl (by simp) (by simp)
theorem app_zero {w:World} {B:Nat} {v:Value} {l:List Rw} (h:OwnR w B v l) (ad:Option Addr) (c:Nat) (ty:TypeId):(Builtin.append_ #[28,28] ty #[v, .slice ad 0 c]).run Tryz.prog w= .ok v w:=by
 obtain ⟨i0,hi,hz0,hz1,hz2⟩:=info_parts infoR;have hs:_root_.Go.Src Tryz.prog i0.size 28 (.slice ad 0 c) 0 [] w:=by rw [hz1];exact src_zero ad c
 rcases ownK_open h rowC_len with ⟨rfl,rfl⟩|⟨g,cap,cs,rfl,hg,hb,hss,hcc,hm,_⟩
 ·simp [Builtin.append_,run_underlying Tryz.underlying28,sizeOf,typeInfo,hi,hs.len,hs.cells]
 ·have:=run_append_room_src (P:=Tryz.prog) w 28 28 ty 55 i0 Tryz.underlying28 hi g 0 l.length cap _ 0 [] hs (by omega) (by simp) (by simp);exact this
section
variable {ops:Array Oper} {rest:List Oper} {o:Oper} {a:Act} {Q:Exit->Act->World->Prop}
theorem appRs (w:World) (hgd:o.guard=none) (s x:Operand) (ho:o.op= .call { callee:= .builtin .append,args:=#[s,x],argTypes:=#[28,28] })
  (base:Nat) (v:Value) (l:List Rw) (hs:a.eval s=v) (hown:OwnR w base v l) (v2:Value) (m:List Rw) (hx:a.eval x=v2) (hR:Rs w v2 m) (hl:l.length+m.length<=2000000) (hbase:base<=w.heap.size)
  (h:∀ v' w',OwnR w' base v' (l++m)->w.grownBy w' v.ownBlock->wpList Tryz.prog ops Q rest (a.put o.dst v') w') :
  wpList Tryz.prog ops Q (o::rest) a w:=by
 obtain ⟨i0,hi,hz0,hz1,hz2⟩:=info_parts infoR;obtain ⟨ad,cap,rfl,hsrc⟩:=rs_src hR
 by_cases hm0:m=[]
 ·subst hm0;refine wpList_plain hgd fun K' hK'=>?_;have hrun:=app_zero hown ad cap o.type;unfold Oper.wp;simp [execOp,ho,resolve,invoke,builtin,hs,hx,hrun,Result.andThen];exact hK' _ _ (h v w (by simpa using hown) ⟨rfl,rfl,rfl,Nat.le_refl _,fun _ _ _=>rfl⟩)
 ·obtain ⟨g,off,rfl,hnews⟩:=hsrc hm0;have hpos:0<m.length:=List.length_pos_iff.2 hm0;refine wpList_append_lies w hgd s x 28 ho base 55 i0 _ 5 40 Tryz.underlying28 hi hz0 hz1 hz2 rfl (by decide) v l.length (l.flatMap rowC) hs hown ⟨g,off,none⟩ m.length cap (m.flatMap rowC) hx (flat_len rowC_len m) hnews (onesRs m) hpos (by unfold maxLen;omega) (by omega) hbase w.heap.size rfl ?_;intro g' cap' w' h1 h2 _ _;refine h _ w' ?_ h2
  show w'.ownsRow _ _ _ _ _ _
  rw [List.flatMap_append,List.length_append];exact h1
end
theorem growR_any (n:Nat) (hn:n<=2000000) (w:World) :
  Calls Tryz.prog 156 #[.slice none 0 0, .int .i64 n] w fun e w'=>∃ v:Value,e= .returned v/\OwnR w' w.heap.size v []/\Below w.heap.size w w':=by
 obtain ⟨i0,hi,hz0,hz1,hz2⟩:=info_parts infoR
 by_cases h0:n=0
 ·subst h0;refine (Any8.slices_Grow_room growR none 0 0 0 w (by omega) (by omega) (by omega) (by omega)).mono ?_;rintro e w' ⟨rfl,rfl⟩;exact ⟨_,rfl,oN _ _ _ _ _,Below.refl _ _⟩
 ·refine (Any8.slices_Grow_grow growR i0 _ hi hz0 (by omega) none 0 0 n [] w (by omega) (by omega) (by rw [hz2];omega) (by omega) (by simp) (fun _=>rfl) (fun a ha=>by cases ha)).mono ?_;rintro e w' ⟨rfl,rfl⟩;have hge:=grownCap_ge w (0+n) 0 (growR_ren.t 25);have hle:=grownCap_le_maxLen w (0+n) 0 (growR_ren.t 25) (by unfold maxLen;omega);generalize grownCap w (0+n) 0 (growR_ren.t 25)=G at hge hle ⊢;have e1:(Value.agg #[.int .i64 0, .int .i64 0, .int .i64 0, .int .i64 0, .int .i64 0]).cells.size=5:=by simp [Value.cells]
  refine ⟨_,rfl,⟨by simp, .inr ⟨w.heap.size,G,_,rfl,Nat.le_refl _,heap_alloc_new w.drew _,Nat.zero_le _,hle,?_,by simp⟩⟩,bAz (Below.refl _ w).drew _⟩;simp only [Array.size_append,Builtin.zeroCells,Array.size_map,Array.size_range,e1];simp;omega
theorem growR_eq {k:Int} {n:Nat} (h:k=(n:Int)) (hn:n<=2000000) (w:World) :
  Calls Tryz.prog 156 #[.slice none 0 0, .int .i64 k] w fun e w'=>∃ v:Value,e= .returned v/\OwnR w' w.heap.size v []/\Below w.heap.size w w':=by
 subst h;exact growR_any n hn w
theorem both_abs {a b:List Rw} (h:rokB a=true) (h':rokB b=true):absum (a++b)<=79999200:=by
 rw [absum_append];have:=rok_abs h;have:=rok_abs h';omega
theorem both_sp {a b:List Rw} (h:rokB a=true) (h':rokB b=true):∀ r∈a++b,spOk r.1:=fun r hr=>by
 rcases List.mem_append.1 hr with hr|hr
 ·exact rw_sp (rok_at h hr)
 ·exact rw_sp (rok_at h' hr)
theorem nil_eql (a:Option Addr) (n c:Nat) (w:World):(binOp .eql 28 (.slice a n c) (.slice none 0 0)).run Tryz.prog w= .ok (.bool a.isNone) w:=by
 simp [binOp,run_equal_slice_nil w 28 55 a n c Tryz.underlying28]
theorem clone_any (v:Value) (l:List Rw) (w:World) (h:Rs w v l) (hl:l.length<=2000000) :
  Calls Tryz.prog 153 #[v] w fun e w'=>∃ o:Value,e= .returned o/\OwnR w' w.heap.size o l/\Below w.heap.size w w':=by
 have HH:Hid (Rs w v l):=h;obtain ⟨a,cap,rfl,-,-,-,hcells⟩:=h;cases a with
 | none =>
  have h0:l=[]:=by
   cases l with
   | nil=>rfl
   | cons x l=>obtain ⟨g,off,e,_⟩:=hcells 0 x rfl;cases e
  subst h0;clear hcells;have hq:=nil_eql none 0 cap;simp only [Option.isNone_none] at hq;go_enter Tryz.func153,Tryz.ntmps153;go_wp2_with fail;go_ret;exact ⟨_,rfl,oN _ _ _ _ _,Below.refl _ _⟩
 | some ad =>
  clear hcells;have hq:=nil_eql (some ad) l.length cap;simp only [Option.isNone_some] at hq;have O0:=oEz w rfl;have hb0:Below w.heap.size w (w.alloc (.cells #[] 55)):=bAz (Below.refl _ _) _;have R0:=HH.out.keep hb0;go_enter Tryz.func153,Tryz.ntmps153
  go_wp2_with (at_builtin;refine appRs _ rfl _ _ rfl w.heap.size _ [] rfl O0 _ l rfl R0 (by simp;omega) (by simp) ?_;intro v4 w4 own4 hg4)
  have hb4:Below w.heap.size w w4:=Below.grew hb0 hg4 (by simp) (oB O0);have O4:Hid (OwnR w4 w.heap.size v4 l):=by show OwnR _ _ _ _;simpa using own4
  clear own4;go_ret;exact ⟨_,rfl,O4.out,hb4⟩
def mixL (f:Rw->Rw) (l:List Rw) (k:Nat):List Rw:=(l.take k).map f++l.drop k
theorem mix_zero (f:Rw->Rw) (l:List Rw):mixL f l 0=l:=by simp [mixL]
theorem mix_all (f:Rw->Rw) (l:List Rw):mixL f l l.length=l.map f:=by simp [mixL]
theorem mix_at (f:Rw->Rw) {l:List Rw} {k:Nat} {x:Rw} (h:l[k]?=some x):(mixL f l k)[k]?=some x:=by
 have hk:=(List.getElem?_eq_some_iff.1 h).1;unfold mixL;rw [List.getElem?_append_right (by simp;omega)];simp;have:min k l.length=k:=by omega
 rw [this];simpa using h
theorem mix_set (f:Rw->Rw) {l:List Rw} {k:Nat} {x:Rw} (h:l[k]?=some x):(mixL f l k).set k (f x)=mixL f l (k+1):=by
 have hk:=(List.getElem?_eq_some_iff.1 h).1;unfold mixL;rw [tS h,drop_cons h,List.map_append,List.append_assoc];rw [List.set_append_right _ _ (by simp;omega)];have:k-((l.take k).map f).length=0:=by simp;omega
 rw [this];simp
theorem FillK.diff {c:Array Value} {L:List Rw} {n i:Nat} {s:Sp} {d:Int} (h:FillK rowC 5 c L n) (hi:L[i]?=some (s,d)) (hin:i<n) (hs:i*5+4<c.size) (d':Int) :
  FillK rowC 5 (c.setIfInBounds (i*5+4) (.int .i64 d')) (L.set i (s,d')) n:=by
 intro j x hj hx q hq;have hil:=(List.getElem?_eq_some_iff.1 hi).1;rw [List.getElem?_set] at hx;rw [Array.getElem?_setIfInBounds]
 by_cases e:i=j
 ·subst e;rw [if_pos rfl,if_pos hil] at hx;cases hx;obtain rfl|hq4:q=4\/q<4:=by omega
  ·rw [if_pos rfl,if_pos hs];rfl
  ·rw [if_neg (by omega),h i _ hin hi q hq];obtain rfl|rfl|rfl|rfl:q=0\/q=1\/q=2\/q=3:=by omega
   all_goals rfl
 ·rw [if_neg e] at hx;rw [if_neg (by omega)];exact h j x hj hx q hq
def negR (r:Rw):Rw:=(r.1,-r.2)
theorem negL_map (l:List Rw):negL l=l.map negR:=rfl
theorem less_no {l:List Rw} (h:rokB l=false):lessL l=[]:=by simp [lessL,h]
theorem less_yes {l:List Rw} (h:rokB l=true):lessL l=sumF (negL l):=by simp [lessL,h]
theorem neg_abs (l:List Rw):absum (negL l)=absum l:=by
 unfold negL
 induction l with
 | nil=>rfl
 | cons r l ih=>simp only [List.map_cons,absum,ih];omega
theorem neg_sp {l:List Rw} (h:rokB l=true):∀ r∈negL l,spOk r.1:=fun r hr=>by
 obtain ⟨q,hq,rfl⟩:=List.mem_map.1 hr;have:spOk q.1:=rw_sp (rok_at h hq);exact this
theorem implLess2_any (v:Value) (l:List Rw) (w:World) (h:Rs w v l) :
  Calls Tryz.prog 84 #[v] w fun e w'=>∃ o:Value,e= .returned o/\OwnR w' w.heap.size o (lessL l)/\Below w.heap.size w w':=by
 cases hk:rokB l
 ·have HF:Hid (lessL l=[]):=less_no hk;go_enter Tryz.func84,Tryz.ntmps84;go_wp2_with fail;refine (iR hk h).mono ?_;rintro e w1 ⟨rfl,hb1⟩;go_wp2_with fail;go_ret;refine ⟨_,rfl,?_,hb1⟩;rw [HF.out];exact oN _ _ _ _ _
 have HF:Hid (lessL l=sumF (negL l)):=less_yes hk;have ha:=rok_abs hk;have hna:=neg_abs l;have hl:=rL hk;have hsp:Hid (∀ r∈negL l,spOk r.1):=neg_sp hk;have HB:Hid (∀ i s d,l[i]?=some (s,d) -> -99999<=d/\d<=99999):=fun i s d hi=>rw_diff (rok_at hk (List.mem_of_getElem? hi));have hnl:(negL l).length=l.length:=by simp [negL]
 go_enter Tryz.func84,Tryz.ntmps84;go_wp2_with fail;refine (iR hk h).mono ?_;rintro e w1 ⟨rfl,hb1⟩;have h1:=h.keep hb1;have hs1:=hb1.size;clear h;go_wp2_with fail;refine (clone_any _ l _ h1 (by omega)).mono ?_;rintro e w2 ⟨o2,rfl,own2,hb2⟩;have hbw2:=bSz hb1 hb2;have hs2:=hb2.size;clear h1
 rcases ownK_open own2 rowC_len with ⟨rfl,rfl⟩|⟨g,cap,c,rfl,hg,hbk,hcs,hcc,hm,hfill⟩
 ·have R2:Rs w2 (.slice none 0 0) []:=OwnR.rs own2 (by simp);clear own2;go_wp2_with fail;refine wp_loop_rounds 1 ?_;rw [rounds_succ];go_wp2_with fail;refine (batchOf_any _ (negL []) _ R2 (by simp [negL]) (by simp [negL,absum]) hsp.out).mono ?_;rintro e w3 ⟨o3,rfl,own3,hb3⟩;have O3:Hid (OwnR w3 w2.heap.size o3 (sumF (negL []))):=own3;clear own3;go_wp2_with fail;go_ret;refine ⟨_,rfl,?_,bSz hbw2 hb3⟩;rw [HF.out];exact oL O3.out (by omega)
 ·clear own2;unfold maxLen at hm;have HCS:Hid (c.size=cap*5):=hcs;have HFL:Hid (FillK rowC 5 c l l.length):=hfill;clear hcs hfill;go_wp2_with fail
  go_loopw [12] (fun i wr=>∃ (k:Nat) (c':Array Value),k<=l.length/\i= .int .i64 k/\Bk wr g c' 55/\c'.size=cap*5/\FillK rowC 5 c' (mixL negR l k) l.length/\Bx g w2 wr) (fun i _=>l.length-(intOf i).toNat)
  case atStart=>exact ⟨0,c,by omega,rfl,hbk,HCS.out,by rw [mix_zero];exact HFL.out,Bx.refl _ _⟩
  case round =>
   clear hbk HCS HFL;obtain ⟨k,c',hkl,rfl,hbk,hcs,hfill,hx⟩:=hrel;have HCS:Hid (c'.size=cap*5):=hcs;have HFL:Hid (FillK rowC 5 c' (mixL negR l k) l.length):=hfill
   by_cases hlt:k<l.length
   ·obtain ⟨⟨s,d⟩,hr⟩:∃ r,l[k]?=some r:=⟨_,List.getElem?_eq_getElem hlt⟩;obtain ⟨hd1,hd2⟩:=HB.out k s d hr;have hat:=mix_at negR hr;have hcell:c'[k*5+4]?=some (.int .i64 d):=hfill k (s,d) hlt hat 4 (by omega);have d4:=hbk.cell hcell;have f4:=hbk.free (k*5+4);have HN:Hid (FillK rowC 5 (c'.setIfInBounds (k*5+4) (.int .i64 (-d))) (mixL negR l (k+1)) l.length):=by
     have h1:=FillK.diff hfill hat hlt (by omega) (-d);rw [<- mix_set negR hr];exact h1
    have bk2:=hbk.set (k*5+4) (.int .i64 (-d));have hx2:=hx.setG (p:=⟨g,k*5+4,none⟩) rfl (.int .i64 (-d));clear hcs hfill hr hat hcell;have ik:((k:Int)<(l.length:Int)):=by omega
    go_wp2_with fail;go_roundw
    case rel=>exact ⟨k+1,_,by omega,by go_num,bk2,by simpa using HCS.out,HN.out,hx2⟩
    case measure=>simp [intOf];omega
   ·obtain rfl:k=l.length:=by omega
    have R3:Rs wr (.slice (some ⟨g,0,none⟩) l.length cap) (negL l):=by
     have h1:=HFL.out;rw [mix_all,<-negL_map] at h1;have:=SlK.of_blk (l:=negL l) hbk (by rw [hnl];exact h1) rowC_len (by rw [hnl];exact hcc) (by unfold maxLen;exact hm) (by omega)
     rwa [hnl] at this
    have hb3:Below w.heap.size w wr:=hx.below hbw2 (by omega) (by omega);have hs3:=hb3.size;clear hcs hfill HCS HFL hbk hx;go_wp2_with fail;refine (batchOf_any _ (negL l) _ R3 (by omega) (by omega) hsp.out).mono ?_;rintro e w3 ⟨o3,rfl,own3,hb4⟩;have O3:Hid (OwnR w3 wr.heap.size o3 (sumF (negL l))):=own3;clear own3;go_wp2_with fail;go_ret;refine ⟨_,rfl,?_,bSz hb3 hb4⟩;rw [HF.out];exact oL O3.out hs3
theorem neg_snoc {l:List Rw} {k:Nat} {s:Sp} {d:Int} (h:l[k]?=some (s,d)):negL (l.take (k+1))=negL (l.take k)++[(s,-d)]:=by
 unfold negL;rw [tS h,List.map_append];rfl
theorem sumF_nil:sumF []=[]:=by unfold sumF sumL sumA;exact fit_eq bok_nil
theorem specLess2_any (v:Value) (l:List Rw) (w:World) (h:Rs w v l) :
  Calls Tryz.prog 78 #[v] w fun e w'=>∃ o:Value,e= .returned o/\OwnR w' w.heap.size o (lessL l)/\Below w.heap.size w w':=by
 have o0:=oEz w rfl;have hb0:=bAz (Below.refl w.heap.size w) (.cells #[] 55)
 -- what follows the loop
 have fin:∀ (W:World) (o:Value) (L:List Rw),OwnR W w.heap.size o L->L.length<=400->absum L<=99999*400->Below w.heap.size w W ->
   Calls Tryz.prog 77 #[o] W fun e w'=>∃ o':Value,e= .returned o'/\OwnR w' w.heap.size o' (sumL ltS L)/\Below w.heap.size w w':=fun W o L hO hL hA hB=>by
  refine (l2Sum_any o L W (OwnR.rs hO (by omega)) (by omega) (by omega)).mono ?_;rintro e w' ⟨o',he,h1,h2⟩;exact ⟨o',he,oL h1 hB.size,bSz hB h2⟩
 have FIN:Hid _:=fin;clear fin;cases hk:rokB l
 ·have HF:Hid (lessL l=[]):=less_no hk;have HS:Hid (fitL (sumL ltS [])=[]):=sumF_nil;obtain ⟨a,cap,hv,_,_,_,_⟩:=Rs.open h;have HV:Hid _:=hv
  by_cases hz:l.length=0
  ·subst hv;generalize l.length=n at *;subst hz;go_enter Tryz.func78,Tryz.ntmps78;go_wp2_with fail;refine wp_loop_rounds 1 ?_;rw [rounds_succ];go_wp2_with fail;refine (FIN.out _ _ [] o0 (by simp) (by simp [absum]) hb0).mono ?_;rintro e w2 ⟨o2,rfl,own2,hb2⟩;have hs2:=hb2.size;have O2:Hid (OwnR w2 w.heap.size o2 (sumL ltS [])):=own2;clear own2;go_wp2_with fail;refine (l2Fit_any O2.out (by simp [sumL,sumA]) hs2).mono ?_;rintro e w3 ⟨o3,rfl,own3,hb3⟩;have O3:Hid (OwnR w3 w.heap.size o3 (fitL (sumL ltS []))):=own3;clear own3;go_wp2_with fail;go_ret;refine ⟨_,rfl,?_,bSz hb2 hb3⟩;rw [HF.out,<-HS.out];exact O3.out
  ·have h1:=h.keep hb0;have hpos:decide ((0:Int)<(l.length:Int))=true:=by simp;omega
   subst hv;have HH:Hid (Rs (w.alloc (.cells #[] 55)) (.slice a l.length cap) l):=h1;generalize hn:l.length=n at *;go_enter Tryz.func78,Tryz.ntmps78;go_wp2_with fail;refine wp_loop_rounds 1 ?_;rw [rounds_succ];go_wp2_with fail;refine (sR hk HH.out).mono ?_;rintro e w1 ⟨rfl,hb1⟩;have hbw1:=bSz hb0 hb1;have o1:=oK o0 hb1;go_wp2_with fail;refine (FIN.out _ _ [] o1 (by simp) (by simp [absum]) hbw1).mono ?_;rintro e w2 ⟨o2,rfl,own2,hb2⟩;have hs2:=hb2.size;have O2:Hid (OwnR w2 w.heap.size o2 (sumL ltS [])):=own2;clear own2;go_wp2_with fail;refine (l2Fit_any O2.out (by simp [sumL,sumA]) hs2).mono ?_;rintro e w3 ⟨o3,rfl,own3,hb3⟩;have O3:Hid (OwnR w3 w.heap.size o3 (fitL (sumL ltS []))):=own3;clear own3;go_wp2_with fail;go_ret;refine ⟨_,rfl,?_,bSz hb2 hb3⟩;rw [HF.out,<-HS.out];exact O3.out
 have HF:Hid (lessL l=fitL (sumL ltS (negL l))):=less_yes hk;have ha:=rok_abs hk;have hna:=neg_abs l;have hl:=rL hk;have hsl:=sumL_len ltS (negL l);have hnl:(negL l).length=l.length:=by simp [negL]
 have HB:Hid (∀ i s d,l[i]?=some (s,d) -> -99999<=d/\d<=99999):=fun i s d hi=>rw_diff (rok_at hk (List.mem_of_getElem? hi));have HH:Hid (Rs w v l):=h;obtain ⟨a,cap,rfl,hc,hm,hn,hcells⟩:=Rs.open h;unfold maxLen at hm;have HC:=(show Hid _ from hcells);clear hcells h;go_enter Tryz.func78,Tryz.ntmps78;go_wp2_with fail
 go_loopw [3,4] (fun o i wr=>∃ k:Nat,k<=l.length/\i= .int .i64 k/\OwnR wr w.heap.size o (negL (l.take k))/\Below w.heap.size w wr) (fun _ i _=>l.length-(intOf i).toNat)
 case atStart=>exact ⟨0,by omega,rfl,o0,hb0⟩
 case round =>
  clear o0 hb0;obtain ⟨k,hkl,rfl,hown,hb⟩:=hrel;have HO:Hid (OwnR wr w.heap.size u3 (negL (l.take k))):=hown;clear hown
  by_cases hlt:k<l.length
  ·obtain ⟨g,off,K,V,A,B,D,rfl,hg,hr,c0,c1,c2,c3,c4⟩:=HC.out k hlt;obtain ⟨hd1,hd2⟩:=HB.out _ _ _ hr;have HZ:=(show Hid _ from neg_snoc hr);have HX:Hid (∀ W,Below w.heap.size w W->W.cell? ⟨g,off+k*5,none⟩=some (.int .i64 K)/\W.cell? ⟨g,off+k*5+1,none⟩=some (.int .i64 V)/\W.cell? ⟨g,off+k*5+2,none⟩=some (.int .i64 A)/\W.cell? ⟨g,off+k*5+3,none⟩=some (.int .i64 B)/\W.cell? ⟨g,off+k*5+4,none⟩=some (.int .i64 D)) :=
    fun W hW=>⟨cB hW c0,cB hW c1,cB hW c2,cB hW c3,cB hW c4⟩
   have hL:(negL (l.take k)).length<=400:=by simp [negL];omega
   have R:=HH.out.keep hb;have ik:decide ((k:Int)<(l.length:Int))=true:=by simp;omega
   clear c0 c1 c2 c3 c4 hr;go_wp2_with fail;refine (sR hk R).mono ?_;rintro e w1 ⟨rfl,hb1⟩;have hbw1:=bSz hb hb1;obtain ⟨x0,x1,x2,x3,x4⟩:=HX.out w1 hbw1;have O1:OwnR w1 w.heap.size u3 (negL (l.take k)):=oK HO.out hb1;have hs1:=hbw1.size;clear HO R hb hb1;generalize negL (l.take k)=L at *
   go_wp2_with (at_builtin;refine appR _ rfl _ _ rfl w.heap.size _ _ rfl ((O1.alloc _).alloc _) _ _ _ _ _ _ rfl (Bk.new _ _ (by simp)) (by omega) (by simp;omega) ?_;intro g3 cap3 w3 own3 hgrow hlg)
   have hb3:Below w.heap.size w w3:=Below.grew (bAz (bAz hbw1 _) _) hgrow (by simp;omega) (oB O1);go_roundw
   case rel =>
    refine ⟨k+1,by omega,by go_num,?_,hb3⟩;rw [HZ.out];exact own3
   case measure=>simp [intOf];omega
  ·obtain rfl:k=l.length:=by omega
   have O1:Hid (OwnR wr w.heap.size u3 (negL l)):=by have:=HO.out;rw [List.take_length] at this;exact this
   clear HO;go_wp2_with fail;refine (FIN.out _ _ (negL l) O1.out (by omega) (by omega) hb).mono ?_;rintro e w2 ⟨o2,rfl,own2,hb2⟩;have hs2:=hb2.size;have O2:Hid (OwnR w2 w.heap.size o2 (sumL ltS (negL l))):=own2;clear own2 O1;go_wp2_with fail;refine (l2Fit_any O2.out (by omega) hs2).mono ?_;rintro e w3 ⟨o3,rfl,own3,hb3⟩;have O3:Hid (OwnR w3 w.heap.size o3 (fitL (sumL ltS (negL l)))):=own3;clear own3;go_wp2_with fail;go_ret;refine ⟨_,rfl,?_,bSz hb2 hb3⟩;rw [HF.out];exact O3.out
end Go.Proofs.YtbdpcngcbnoioaaGreatDoor
