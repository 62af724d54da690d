import Derived.Test.YtbdpcngcbnoioaaGreatDoorGq3
set_option maxRecDepth 100000
set_option maxHeartbeats 16000000
namespace Go.Proofs.YtbdpcngcbnoioaaGreatDoor
open Go.RowKit
theorem sumK_len (kind:Int) {s:List It} (h:sokB s=true):(sumK kind s).length<=400:=sok_len (sumK_sok kind h)
theorem dif_len (kind:Int) (l:List Rw) (t:Int×Int):(difAt kind l t).length<=1600:=by
 unfold difAt;refine Nat.le_trans (sumL_len _ _) ?_;have b:=fun x y=>sumK_len kind (items_sokF l x y);have b1:=b t.1 t.2;have b2:=b (t.1-1) t.2;have b3:=b t.1 (t.2-1);have b4:=b (t.1-1) (t.2-1);simp only [List.length_append,negI,List.length_map];omega
theorem dif_mem {kind:Int} {l:List Rw} {t:Int×Int} {r:It} (hr:r∈difAt kind l t) : -2<=r.2/\r.2<=2/\itK r.1:=by
 have h1:tot (difAt kind l t) r.1=r.2:=srt_tot ltT_ord (sumL_srt ltT_ord _) hr;have h2:=dif_tot kind l t r.1;rw [h1] at h2;have b:=fun x y=>sumK_tot1 kind (items_sokF l x y) r.1;have b1:=b t.1 t.2;have b2:=b (t.1-1) t.2;have b3:=b t.1 (t.2-1);have b4:=b (t.1-1) (t.2-1);refine ⟨by omega,by omega,?_⟩;obtain ⟨p,hp,e⟩:=sumL_key hr;have hk:∀ x y,∀ p∈sumK kind (itemsL l x y),itK p.1:=fun x y p hp=>sok_k (sumK_sok kind (items_sokF l x y)) p hp;have:itK p.1:=by
  simp only [List.mem_append] at hp
  rcases hp with ((hp|hp)|hp)|hp
  ·exact hk _ _ p hp
  ·obtain ⟨p',hp',rfl⟩:=List.mem_map.1 hp;exact hk _ _ p' hp'
  ·obtain ⟨p',hp',rfl⟩:=List.mem_map.1 hp;exact hk _ _ p' hp'
  ·exact hk _ _ p hp
 rw [e] at this;exact this
theorem chgT_snoc (kind:Int) (l:List Rw) (ts:LI) (t:Int×Int):chgT kind l (ts++[t])=chgT kind l ts++stamp t (difAt kind l t):=by
 unfold chgT stamp;rw [List.flatMap_append];simp
theorem chgT_len (kind:Int) (l:List Rw) (ts:LI):(chgT kind l ts).length<=1600*ts.length:=by
 unfold chgT;refine flat_le (fun t=>?_) ts;rw [List.length_map];exact dif_len kind l t
theorem chgT_row {kind:Int} {l:List Rw} {ts:LI} (ht:∀ t∈ts,okB t.1 t.2=true) {r:Rw} (hr:r∈chgT kind l ts):rwOkB r=true /\ -2<=r.2/\r.2<=2:=by
 obtain ⟨h1,h2,_⟩:=chg_key ht hr;unfold chgT at hr;obtain ⟨t,htm,hr⟩:=List.mem_flatMap.1 hr;obtain ⟨q,hq,rfl⟩:=List.mem_map.1 hr;obtain ⟨d1,d2,_⟩:=dif_mem hq;obtain ⟨k1,k2,k3⟩:=key_ok h1 h2;have k4:inB q.2 (-99999) 99999=true:=by simp [inB];omega
 refine ⟨?_,d1,d2⟩;simp only at k1 k2 k3;simp only [rwOkB,k1,k2,k3,k4,Bool.and_self]
theorem chgT_one {kind:Int} {l:List Rw} {k:Int} {n:Nat} (h0:0<=k) (h3:k<=3) (hk:∀ r∈l,r.1.1.1=k) {r:Rw} (hr:r∈chgT kind l ((jT l).take n)):r.1.1.1=k:=by
 refine chg_one (kind:=kind) (l:=l) h0 h3 hk ?_;unfold chgL;unfold chgT at hr ⊢;obtain ⟨t,htm,hr⟩:=List.mem_flatMap.1 hr;exact List.mem_flatMap.2 ⟨t,List.mem_of_mem_take htm,hr⟩
theorem jt_take {l:List Rw} {n:Nat} {t:Int×Int} (h:t∈(jT l).take n):okB t.1 t.2=true:=jt_ok l t (List.mem_of_mem_take h)
theorem rowsK_key {l:List Rw} {k:Int}:∀ r∈rowsK l k,r.1.1.1=k:=fun r hr=>by simpa using (List.mem_filter.1 hr).2
theorem items_key {l:List Rw} {k:Int} (hk:∀ r∈l,r.1.1.1=k) (x y:Int):∀ p∈itemsL l x y,p.1.1=k:=fun p hp=>by
 unfold itemsL at hp;split at hp
 ·obtain ⟨q,hq,e⟩:=sumL_key hp;unfold atL at hq;obtain ⟨q',hq',rfl⟩:=List.mem_map.1 hq;rw [<- e];exact hk q' (List.mem_filter.1 hq').1
 ·simp at hp
open Go.Shelf
theorem absum_ones {m:List It} (h:∀ r∈m,r.2=1):absum m<=m.length:=by
 have:=absum_le (l:=m) (c:=1) (fun r hr=>by rw [h r hr];omega);omega
theorem chgT_abs {kind:Int} {l:List Rw} {ts:LI} (ht:∀ t∈ts,okB t.1 t.2=true):absum (chgT kind l ts)<=2*(chgT kind l ts).length :=
 absum_le fun _ hr=>(chgT_row ht hr).2
theorem own_grown {w w1:World} {B:Nat} {v:Value} {l:LI} {ob:Nat} (h:Own w B v l) (hg:w.grownBy w1 (some ob)) (hB:ob<B):Own w1 B v l :=
 oAz h fun q e=>hg.block q (own_lt h q e) (fun e'=>by cases e';have:=own_base h _ e;omega)
theorem l11Key_any (v:Value) (l:List Rw) (key kind:Int) (w:World) (h:Rs w v l) (hk:rokB l=true) (h0:0<=key) (h3:key<=3)
  (hf:∀ (u:Value) (s:List It) (W:World),Is W u s->sokB s=true->Calls Tryz.prog 256 #[u, .int .i64 key, .int .i64 kind] W fun e w'=>∃ o:Value,e= .returned o/\OwnI w' W.heap.size o (partK kind s key)/\Below W.heap.size W w') :
  Calls Tryz.prog 230 #[v, .int .i64 key, .int .i64 kind] w fun e w'=>∃ o:Value,e= .returned o/\OwnR w' w.heap.size o (chgL kind (rowsK l key))/\Below w.heap.size w w':=by
 have HH:Hid (Rs w v l):=h;have hll:=rLz hk;have HF:=(show Hid _ from hf);obtain ⟨a,cap,rfl,hc,hm,hn,hcells⟩:=Rs.open h;unfold maxLen at hm;have HC:=(show Hid _ from hcells);have HT:Hid (ftimesL l key=jT (rowsK l key)):=by show _=_;unfold ftimesL;rw [if_pos hk]
 have HKM:Hid (rokB (rowsK l key)=true/\∀ r∈rowsK l key,r.1.1.1=key):=⟨rowsK_ok hk key,rowsK_key⟩;have HK03:Hid (0<=key/\key<=3):=⟨h0,h3⟩;have oE:=oEz w rfl;have hbE:=bAz (Below.refl _ w) (.cells #[] 55);clear hcells h hf h0 h3;go_enter Tryz.func230,Tryz.ntmps230;go_wp2_with fail
 go_loopw [7,8] (fun o b wr=>∃ k:Nat,k<=l.length/\b= .int .i64 k/\OwnR wr w.heap.size o (rowsK (l.take k) key)/\Below w.heap.size w wr) (fun _ b _=>l.length-(intOf b).toNat)
 case atStart=>exact ⟨0,by omega,rfl,oE,hbE⟩
 case round =>
  clear oE hbE;obtain ⟨k,hkl,rfl,hown,hb⟩:=hrel;have O1:Hid (OwnR wr w.heap.size u7 (rowsK (l.take k) key)):=hown;have hlen:(rowsK (l.take k) key).length<=400:=Nat.le_trans (rowsK_len _ _) (by rw [List.length_take];omega);have hszr:=hb.size;clear hown
  by_cases hlt:k<l.length
  ·obtain ⟨g,off,K,V,A,B,D,rfl,hg,hr,c0,c1,c2,c3,c4⟩:=HC.out k hlt;have HR:=(show Hid _ from hr);have q0:=cB hb c0;have q1:=cB hb c1;have q2:=cB hb c2;have q3:=cB hb c3;have q4:=cB hb c4;have ii:((k:Int)<(l.length:Int)):=by omega
   clear c0 c1 c2 c3 c4 hr
   by_cases hK:K=key
   ·have HZ:Hid (rowsK (l.take (k+1)) key=rowsK (l.take k) key++[(((K,V),(A,B)),D)]):=rowsK_yes HR.out hK;subst hK;have O2:OwnR wr w.heap.size u7 (rowsK (l.take k) K):=O1.out;generalize rowsK (l.take k) K=l1 at *
    go_wp2_with (at_builtin;refine appR _ rfl _ _ rfl w.heap.size _ _ rfl (O2.alloc _) _ _ _ _ _ _ rfl (Bk.new _ _ (by simp)) (by omega) (by simp;omega) ?_;intro g3 cap3 w3 own3 hgrow hlg)
    have hb6:Below w.heap.size w w3:=Below.grew (bAz hb _) hgrow (by simp;omega) (own_base O1.out);go_roundw
    case rel=>exact ⟨k+1,by omega,by go_num,by rw [HZ.out];exact own3,hb6⟩
    case measure=>simp [intOf];omega
   ·have HZ:Hid (rowsK (l.take (k+1)) key=rowsK (l.take k) key):=rowsK_no HR.out hK;have nx:(K==key)=false:=beq_eq_false_iff_ne.2 hK;go_wp2_with fail;go_roundw
    case rel=>exact ⟨k+1,by omega,by go_num,by rw [HZ.out];exact O1.out,hb⟩
    case measure=>simp [intOf];omega
  ·obtain rfl:k=l.length:=by omega
   have OM:OwnR wr w.heap.size u7 (rowsK l key):=by have:=O1.out;rw [List.take_length] at this;exact this
   have hml:(rowsK l key).length<=400:=by rw [List.take_length] at hlen;exact hlen
   have RM:Rs wr u7 (rowsK l key):=OwnR.rs OM (by omega);obtain ⟨am,cpm,rfl,-⟩:=Rs.open RM;have hbE2:Below wr.heap.size wr (wr.alloc (.cells #[] 55)):=bAz (Below.refl _ _) _;have oE2:=oEz wr rfl;have HRM:=(show Hid (Rs wr (.slice am (rowsK l key).length cpm) (rowsK l key)) from RM);clear O1 OM RM hlen HC;go_wp2_with fail;refine (specFlowTimes_any _ l key _ (HH.out.keep (bSz hb hbE2))).mono ?_;rintro e W0 ⟨tv0,rfl,ownT,hbT⟩;rw [HT.out] at ownT;obtain ⟨aT,cT,rfl⟩:=own_slice0 ownT;have hT64:=jtimes_len (rowsK l key);have hszT:=hbT.size;have hsz1:(wr.alloc (.cells #[] 55)).heap.size=wr.heap.size+1:=by simp
   have HKP:Hid (∀ W,W0.grownBy W (some wr.heap.size)->Rs W (.slice am (rowsK l key).length cpm) (rowsK l key)/\Ts W (.slice aT (jT (rowsK l key)).length cT) (jT (rowsK l key))/\Below w.heap.size w W):=fun W hg=>by
    have h1:Below wr.heap.size wr W:=Below.grew (bSz hbE2 hbT) hg (by omega) (fun k e=>by cases e;exact Nat.le_refl _);exact ⟨HRM.out.keep h1,Own.ts (own_grown ownT hg (by omega)) (by omega),hb.trans (h1.mono hszr)⟩
   have HO0:Hid (OwnR W0 wr.heap.size (.slice (some ⟨wr.heap.size,0,none⟩) 0 0) []):=oK oE2 hbT;have hobW:wr.heap.size+1<=W0.heap.size:=by omega
   clear ownT hbT oE2 hbE2 HRM hsz1 hszT HH hb;generalize hM:rowsK l key=M at *;have HMM:=(show Hid (rowsK l key=M) from hM);clear hM;have HOB:=(show Hid (w.heap.size<=wr.heap.size) from hszr);clear hszr;generalize wr.heap.size=ob at *;go_wp2_with fail
   go_loopw [9,11] (fun o b wq=>∃ i:Nat,i<=(jT M).length/\b= .int .i64 i/\OwnR wq ob o (chgT kind M ((jT M).take i))/\(∀ q,o.ownBlock=some q->q=ob\/W0.heap.size<=q)/\W0.grownBy wq (some ob)) (fun _ b _=>(jT M).length-(intOf b).toNat)
   case atStart=>exact ⟨0,by omega,rfl,HO0.out,fun q e=> .inl (by cases e;rfl),⟨rfl,rfl,rfl,Nat.le_refl _,fun _ _ _=>rfl⟩⟩
   case round =>
    clear HO0;obtain ⟨i,hi,rfl,hown,hq,hg⟩:=hrel;obtain ⟨Wd,hWd⟩:∃ Wd,Wd=wr:=⟨_,rfl⟩;subst hWd;obtain ⟨RM,RT,hbw⟩:=HKP.out Wd hg;have HO:Hid (OwnR Wd ob u9 (chgT kind M ((jT M).take i))/\(∀ q,u9.ownBlock=some q->q=ob\/W0.heap.size<=q)):=⟨hown,hq⟩;have HG:Hid (W0.grownBy Wd (some ob)):=hg;have hszq:=hg.size;have HOL:Hid (∀ t∈(jT M).take i,okB t.1 t.2=true):=fun t ht=>jt_take ht;have hcl:(chgT kind M ((jT M).take i)).length<=102400:=by have:=chgT_len kind M ((jT M).take i);rw [List.length_take] at this;omega
    have hRo:Rs Wd u9 (chgT kind M ((jT M).take i)):=OwnR.rs hown (by omega);obtain ⟨ao,cpo,rfl,-,-,-,hcc⟩:=Rs.open hRo;have HCC:=(show Hid _ from hcc);clear hown hq hRo hg hcc
    by_cases hlt:i<(jT M).length
    ·obtain ⟨aT',cT',eT,-,-,-,hct⟩:=RT;obtain ⟨g,off,eg,hgl,c0,c1⟩:=hct i hlt;cases eT;cases eg;have HTI:Hid ((jT M)[i]?=some (tA (jT M) i,tB (jT M) i)):=by
      show _=_
      rw [List.getElem?_eq_getElem hlt];simp [tA,tB,List.getD_eq_getElem?_getD,List.getElem?_eq_getElem hlt]
     have ii:((i:Int)<((jT M).length:Int)):=by omega
     have hbX:Below Wd.heap.size Wd (Wd.alloc (.cells #[.int .i64 (tA (jT M) i), .int .i64 (tB (jT M) i)] 32)):=bAz (Below.refl _ _) _;have bX:Bk (Wd.alloc (.cells #[.int .i64 (tA (jT M) i), .int .i64 (tB (jT M) i)] 32)) Wd.heap.size #[.int .i64 (tA (jT M) i), .int .i64 (tB (jT M) i)] 32:=Bk.new _ _ rfl;have RM1:=RM.keep hbX;obtain ⟨x0,x1,_,_⟩:=bX.two;clear RM hct;generalize tA (jT M) i=X at *;generalize tB (jT M) i=Y at *;go_wp2_with fail;generalize Wd.alloc (.cells #[.int .i64 X, .int .i64 Y] 32)=W1 at *;refine (specAt_any _ M X Y W1 RM1).mono ?_;rintro e W2 ⟨o2,rfl,own2,hb2⟩;have I2:=OwnI.is own2 (by have:=items_len M X Y;omega);have hbX2:=bSz hbX hb2;clear own2 RM1 x0 x1;go_wp2_with fail;refine (HF.out _ _ W2 I2 (items_sokF M X Y)).mono ?_;rintro e W3 ⟨o3,rfl,own3,hb3⟩;have HS:Hid (partK kind (itemsL M X Y) key=sumK kind (itemsL M X Y)):=(sumK_one kind (items_sokF M X Y) (items_key HKM.out.2 X Y) HK03.out.1 HK03.out.2).symm;rw [HS.out] at own3;have hs4:=sumK_len kind (items_sokF M X Y);have HS1:Hid (absum (sumK kind (itemsL M X Y))<=400):=by
      have:=absum_ones (m:=sumK kind (itemsL M X Y)) (fun r hr=>sumK_ones (items_sokF M X Y) hr)
      show _<=_;omega
     have HX3:Hid (∀ W,Below W2.heap.size W2 W->Below Wd.heap.size Wd W/\Bk W Wd.heap.size #[.int .i64 X, .int .i64 Y] 32):=fun W hW=>⟨bSz hbX2 hW,(bX.keep hb2).keep hW⟩;have hsz2:=hbX2.size;clear I2 hbX hb2 hbX2 bX;have HO3:=(show Hid (OwnI W3 W2.heap.size o3 (sumK kind (itemsL M X Y))) from own3);have HB3:=(show Hid (Below W2.heap.size W2 W3) from hb3);have HCH:Hid (∀ r∈chgT kind M ((jT M).take i),r.1.1.1=key /\ -2<=r.2/\r.2<=2):=fun r hr=>⟨chgT_one HK03.out.1 HK03.out.2 HKM.out.2 hr,(chgT_row HOL.out hr).2⟩;have HAB:Hid (absum (chgT kind M ((jT M).take i))<=204800):=by have:=chgT_abs (kind:=kind) (l:=M) HOL.out;show _<=_;omega
     have HLK:Hid (∀ L:List It,L=sumK kind (itemsL M X Y)++negI (atL (chgT kind M ((jT M).take i)) X Y)->sumL ltT L=difAt kind M (X,Y)):=fun L hL=>lack_sum kind HKM.out.1 HTI.out fun v=>by rw [hL,tot_append,negAt_tot];exact Int.sub_eq_add_neg.symm
     have HNX:Hid (chgT kind M ((jT M).take (i+1))=chgT kind M ((jT M).take i)++stamp (X,Y) (difAt kind M (X,Y))):=by show _=_;rw [tSz HTI.out,chgT_snoc]
     clear own3 hb3;generalize hC:chgT kind M ((jT M).take i)=C at *;generalize hS:sumK kind (itemsL M X Y)=S at *;clear hC hS HS;go_wp2_with fail
     go_loopw [13,14] (fun o b wq=>∃ k:Nat,k<=C.length/\b= .int .i64 k/\OwnI wq W2.heap.size o (S++negI (atL (C.take k) X Y))/\Below W2.heap.size W2 wq) (fun _ b _=>C.length-(intOf b).toNat)
     case atStart=>exact ⟨0,by omega,rfl,by have:=HO3.out;simpa [atL,negI] using this,HB3.out⟩
     case round =>
      clear HO3 HB3;obtain ⟨k,hkC,rfl,hown,hbq⟩:=hrel;obtain ⟨hbr,bX⟩:=HX3.out _ hbq;have HOq:Hid (OwnI wr W2.heap.size u13 (S++negI (atL (C.take k) X Y))):=hown;have hszk:=hbq.size;have hLn:(S++negI (atL (C.take k) X Y)).length<=200000:=by
       have:=atL_len (C.take k) X Y;rw [List.length_append,negI_len];rw [List.length_take] at this;omega
      by_cases hlk:k<C.length
      ·obtain ⟨g,off,K,V,A,B,D,rfl,hgl,hr,c0,c1,c2,c3,c4⟩:=HCC.out k hlk;have HR:=(show Hid _ from hr);obtain ⟨rfl,d1,d2⟩:K=key /\ -2<=D/\D<=2:=HCH.out _ (List.mem_of_getElem? hr);have e2:∀ p:Bel wr,p.ww.cell? ⟨g,off+k*5+2,none⟩=some (.int .i64 A):=fun p=>cB p.below (cB hbr c2);have e3:∀ p:Bel wr,p.ww.cell? ⟨g,off+k*5+3,none⟩=some (.int .i64 B):=fun p=>cB p.below (cB hbr c3);have t0:=bX.bel0;have t1:=bX.bel1;have hne:=bel_some wr;have ik:((k:Int)<(C.length:Int)):=by omega
       have iw:IntKind.i64.wrap (-D) = -D:=by rw [IntKind.wrap_i64];omega
       have HX:Hid (∀ W,Below W2.heap.size W2 W->W.cell? ⟨g,off+k*5+1,none⟩=some (.int .i64 V)/\W.cell? ⟨g,off+k*5+4,none⟩=some (.int .i64 D)):=fun W hW=>⟨cB (HX3.out W hW).1 c1,cB (HX3.out W hW).1 c4⟩;clear c0 c1 c2 c3 c4 hr hown bX;cases hp:leB A B X Y
       ·have HZ:Hid (atL (C.take (k+1)) X Y=atL (C.take k) X Y):=atL_no HR.out hp;go_wp2_with fail
        (refine wBz (by kernel_rfl) (by kernel_rfl) ?_;(repeat (go_big_quiet_step ((first|(go_at_call 129;exact clz (specLess_eq (by with_reducible assumption) _))))));refine wpQuiet_nil ?_)
        intro w3 hw3
        replace hw3:=bOz hw3
        have O3:Hid (OwnI w3 W2.heap.size u13 (S++negI (atL (C.take k) X Y))):=oK HOq.out hw3;have hb3:=bSz hbq hw3;clear HOq e2 e3 t0 t1 hne;go_wp2_with fail;go_roundw
        case rel=>exact ⟨k+1,by omega,by go_num,by rw [HZ.out];exact O3.out,hb3⟩
        case measure=>simp [intOf];omega
       ·have HZ:Hid (S++negI (atL (C.take (k+1)) X Y)=S++negI (atL (C.take k) X Y)++[((K,V),-D)]):=by
         show _=_;rw [atL_yes HR.out hp,negI_snoc1,List.append_assoc]
        go_wp2_with fail
        (refine wBz (by kernel_rfl) (by kernel_rfl) ?_;(repeat (go_big_quiet_step ((first|(go_at_call 129;exact clz (specLess_eq (by with_reducible assumption) _))))));refine wpQuiet_nil ?_)
        intro w3 hw3
        replace hw3:=bOz hw3
        have O3:OwnI w3 W2.heap.size u13 (S++negI (atL (C.take k) X Y)):=oK HOq.out hw3;have hb3:=bSz hbq hw3;have hs3:=hb3.size;obtain ⟨y1,y4⟩:=HX.out w3 hb3;clear HOq e2 e3 t0 t1 hne;generalize S++negI (atL (C.take k) X Y)=LL at *;go_wp2_with fail
        go_region_held3 (fun w'=>w'.cell? ⟨g,off+k*5+1,none⟩=some (.int .i64 V)/\w'.cell? ⟨g,off+k*5+4,none⟩=some (.int .i64 D))
         (first|exact HX.out _ hb3.drew|exact HX.out _ (bAllocT hb3 hs3 _).drew|exact HX.out _ hb7)
         (first
          | (refine stepI _ (by rfl) _ _ (by rfl) W2.heap.size _ LL (by rfl) ((O3.alloc _).drew) _ K V (-D) (by rfl) ((Bk.new _ _ rfl).drew) (by omega) (by simp;omega) ?_;intro g7 cap7 w7 own7 hgrow hlg;have hb7:Below W2.heap.size W2 w7:=Below.grew (bAllocT hb3 hs3 _).drew hgrow (by simp;omega) (fun q e=>oB O3 q e)))
        go_wp2_with fail;go_roundw
        case rel=>exact ⟨k+1,by omega,by go_num,by rw [HZ.out];exact own7,hb7⟩
        case measure=>simp [intOf];omega
      ·obtain rfl:k=C.length:=by omega
       have hLS:absum (S++negI (atL C X Y))<=300000:=by
        have h1:=atL_abs (l:=C) (x:=X) (y:=Y);have h2:=HS1.out;have h3:=HAB.out;rw [absum_append,absum_negI];omega
       rw [List.take_length] at hLn;have IL:Is wr u13 (S++negI (atL C X Y)):=by have:=HOq.out;rw [List.take_length] at this;exact OwnI.is this (by omega)
       have HDF:Hid (sumL ltT (S++negI (atL C X Y))=difAt kind M (X,Y)):=HLK.out _ rfl;obtain ⟨Wk,hWk⟩:∃ Wk,Wk=wr:=⟨_,rfl⟩;subst hWk;clear HOq hown;go_wp2_with fail;refine (l2Items_any _ (S++negI (atL C X Y)) _ IL (by omega) (by omega)).mono ?_;rw [HDF.out];rintro e W5 ⟨o5,rfl,own5,hb5⟩;have hd5:=dif_len kind M (X,Y);have I5:=OwnI.is own5 (by omega);obtain ⟨a5,cp5,rfl,-,-,-,hcells5⟩:=Is.open I5;have HC5:=(show Hid _ from hcells5);have hbr5:=bSz hbr hb5;have BX5:=(show Hid (Bk W5 Wd.heap.size #[.int .i64 X, .int .i64 Y] 32) from bX.keep hb5);have HOW:Hid (OwnR W5 ob (.slice ao C.length cpo) C):=oK HO.out.1 hbr5;have HQ:=(show Hid (∀ q,(Value.slice ao C.length cpo).ownBlock=some q->q=ob\/W0.heap.size<=q) from HO.out.2);have HLT:Hid (∀ q,(Value.slice ao C.length cpo).ownBlock=some q->q<Wd.heap.size):=fun q e=>oT HO.out.1 q e;have HGW:Hid (W0.grownBy W5 (some ob)):=HG.out.andThen (grown_of hbr5 none) (fun j e=>by cases e);have hob5:ob<=W5.heap.size:=by have:=HGW.out.size;omega
       have HI5:Hid (∀ W,W5.grownBy W (Value.slice ao C.length cpo).ownBlock->Is W (.slice a5 (difAt kind M (X,Y)).length cp5) (difAt kind M (X,Y))/\Bk W Wd.heap.size #[.int .i64 X, .int .i64 Y] 32):=fun W hW=>by
        refine ⟨OwnI.is (oAz own5 fun q e=>hW.block q (oT own5 q e) (fun e'=>?_)) (by omega),Bk.grew BX5.out hW (fun q e=>?_)⟩
        ·have h1:=oB own5 q e;have h2:=HLT.out q e'.symm;have h3:=hbr.size;omega
        ·have h2:=HLT.out q e;omega
       clear IL own5 I5 hcells5 hb5 hbr5 bX hbr hbq HX3 BX5;generalize hDD:difAt kind M (X,Y)=DD at *;have HDM:Hid (∀ r∈DD,r.1.1=key):=fun r hr=>by
        have:((r.1,(X,Y)),r.2)∈chgT kind M ((jT M).take (i+1)):=by
         rw [HNX.out,List.mem_append];exact .inr (List.mem_map.2 ⟨r,hr,rfl⟩)
        exact chgT_one HK03.out.1 HK03.out.2 HKM.out.2 this
       go_wp2_with fail
       go_loopw [9,15] (fun o b wq=>∃ k:Nat,k<=DD.length/\b= .int .i64 k/\OwnR wq ob o (C++stamp (X,Y) (DD.take k))/\(∀ q,o.ownBlock=some q->(Value.slice ao C.length cpo).ownBlock=some q\/W5.heap.size<=q)/\W5.grownBy wq (Value.slice ao C.length cpo).ownBlock) (fun _ b _=>DD.length-(intOf b).toNat)
       case atStart=>exact ⟨0,by omega,rfl,by have:=HOW.out;simpa [stamp] using this,fun q e=> .inl e,⟨rfl,rfl,rfl,Nat.le_refl _,fun _ _ _=>rfl⟩⟩
       case round =>
        clear HOW;obtain ⟨k,hkD,rfl,hown,hq,hg⟩:=hrel;have HOq:Hid (OwnR wr ob u9 (C++stamp (X,Y) (DD.take k))):=hown;have HQq:Hid (∀ q,u9.ownBlock=some q->(Value.slice ao C.length cpo).ownBlock=some q\/W5.heap.size<=q):=hq;have HGq:Hid (W5.grownBy wr (Value.slice ao C.length cpo).ownBlock):=hg;have hsg:=hg.size;obtain ⟨I6,BX6⟩:=HI5.out wr hg;clear hown hq hg
        by_cases hlk:k<DD.length
        ·obtain ⟨a6,cp6,e6,-,-,-,hcells6⟩:=Is.open I6;obtain ⟨g,off,K,V,D,e7,hgl,hr,c0,c1,c2⟩:=hcells6 k hlk;cases e6;cases e7;have hK:K=key:=HDM.out _ (List.mem_of_getElem? hr);subst hK;have HR:Hid (C++stamp (X,Y) (DD.take (k+1))=C++stamp (X,Y) (DD.take k)++[(((K,V),(X,Y)),D)]):=by show _=_;rw [stamp_snoc hr,List.append_assoc]
         have ik:((k:Int)<(DD.length:Int)):=by omega
         have hLn2:(C++stamp (X,Y) (DD.take k)).length<=200000:=by rw [List.length_append,stamp_len,List.length_take];omega
         have HX:Hid (∀ W,wr.grownBy W u9.ownBlock->W.cell? ⟨g,off+k*3+1,none⟩=some (.int .i64 V)/\W.cell? ⟨g,off+k*3+2,none⟩=some (.int .i64 D)/\W.cell? ⟨Wd.heap.size,0,none⟩=some (.int .i64 X)/\W.cell? ⟨Wd.heap.size,1,none⟩=some (.int .i64 Y)):=fun W hW=>by
          obtain ⟨I7,BX7⟩:=HI5.out W (HGq.out.andThen hW (fun j e=>(HQq.out j e).symm));obtain ⟨a7,cp7,e8,-,-,-,hcells7⟩:=Is.open I7;obtain ⟨g',off',K',V',D',e9,_,hr',f0,f1,f2⟩:=hcells7 k hlk;cases e8;cases e9;rw [hr] at hr';cases hr';exact ⟨f1,f2,BX7.two.1,BX7.two.2.1⟩
         have O6:OwnR wr ob u9 (C++stamp (X,Y) (DD.take k)):=HOq.out;have hobw:ob<=wr.heap.size:=by omega
         obtain ⟨z1,z2,z3,z4⟩:=HX.out wr ⟨rfl,rfl,rfl,Nat.le_refl _,fun _ _ _=>rfl⟩;clear hr c0 c1 c2 hcells6 I6 BX6 HOq;generalize C++stamp (X,Y) (DD.take k)=LL at *;go_wp2_with fail
         go_region_held3 (fun w'=>w'.cell? ⟨g,off+k*3+1,none⟩=some (.int .i64 V)/\w'.cell? ⟨g,off+k*3+2,none⟩=some (.int .i64 D)/\w'.cell? ⟨Wd.heap.size,0,none⟩=some (.int .i64 X)/\w'.cell? ⟨Wd.heap.size,1,none⟩=some (.int .i64 Y))
          (first|exact HX.out _ (grown_of (Below.refl _ _).drew _)|exact HX.out _ (grown_of (bAz (Below.refl _ _) _).drew _)|exact HX.out _ hg7)
          (first
           | (refine stepR2 _ (by rfl) _ _ (by rfl) ob _ LL (by rfl) ((O6.alloc _).drew) _ K V X Y D (by rfl) ((Bk.new _ _ rfl).drew) (by omega) (by simp;omega) ?_;intro g7 cap7 w7 own7 hgrow hgq hlg;have hg7:wr.grownBy w7 u9.ownBlock:=(grown_of (bAz (Below.refl _ wr) _).drew _).andThen hgrow (fun j e=> .inr e)))
         have HQ7:Hid (∀ q,(Value.slice (some ⟨g7,0,none⟩) (LL.length+1) cap7).ownBlock=some q->(Value.slice ao C.length cpo).ownBlock=some q\/W5.heap.size<=q):=fun q e=>by
          cases e
          rcases hgq with e|e
          ·exact HQq.out _ e
          ·right
           have h1:g7=wr.heap.size+1:=by rw [e];simp
           show W5.heap.size<=g7
           omega
         have HG7:Hid (W5.grownBy w7 (Value.slice ao C.length cpo).ownBlock):=HGq.out.andThen hg7 (fun j e=>(HQq.out j e).symm);have HO7:Hid (OwnR w7 ob (.slice (some ⟨g7,0,none⟩) (LL.length+1) cap7) (LL++[(((K,V),(X,Y)),D)])):=own7;clear hgq hgrow hg7 own7;go_wp2_with fail;go_roundw
         case rel=>exact ⟨k+1,by omega,by go_num,by rw [HR.out];exact HO7.out,HQ7.out,HG7.out⟩
         case measure=>simp [intOf];omega
        ·obtain rfl:k=DD.length:=by omega
         have HF9:Hid (OwnR wr ob u9 (chgT kind M ((jT M).take (i+1)))/\(∀ q,u9.ownBlock=some q->q=ob\/W0.heap.size<=q)/\W0.grownBy wr (some ob)):=by
          refine ⟨?_,fun q e=>?_,HGW.out.andThen HGq.out (fun j e=>?_)⟩
          ·have:=HOq.out;rw [List.take_length] at this;rw [HNX.out];exact this
          ·rcases HQq.out q e with e'|e'
           ·exact HQ.out q e'
           ·right;have:=HGW.out.size;omega
          ·rcases HQ.out j e with e'|e'
           ·right;rw [e']
           ·exact .inl e'
         clear HOq HQq HGq I6 BX6;go_wp2_with fail;go_roundw
         case rel=>exact ⟨i+1,by omega,by go_num,HF9.out.1,HF9.out.2.1,HF9.out.2.2⟩
         case measure=>simp [intOf];omega
    ·obtain rfl:i=(jT M).length:=by omega
     have HFN:Hid (OwnR Wd ob (.slice ao (chgT kind M ((jT M).take (jT M).length)).length cpo) (chgL kind M)):=by
      have:=HO.out.1;rw [List.take_length] at this ⊢;exact this
     clear RM RT;go_wp2_with fail;go_ret;exact ⟨_,rfl,by rw [HMM.out];exact oLz HFN.out HOB.out,hbw⟩
def accG (f:Int->List Rw):Nat->List Rw
 | 0=>[]
 | k+1=>accG f k++f k
theorem accG_len {f:Int->List Rw} {c:Nat} (h:∀ k,(f k).length<=c) (k:Nat):(accG f k).length<=k*c:=by
 induction k with
 | zero=>simp [accG]
 | succ k ih=>have:=h k;simp only [accG,List.length_append,Nat.add_mul];omega
theorem accG_four (kind:Int) (a:List Rw):accG (fun k=>chgL kind (rowsK a k)) 4=fsumR kind a:=by simp [accG,fsumR]
theorem chgL_len (kind:Int) (l:List Rw):(chgL kind l).length<=102400:=by
 unfold chgL;have h1:=chgT_len kind l (jT l);have h2:=jtimes_len l;omega
theorem fsumR_len (kind:Int) (a:List Rw):(fsumR kind a).length<=409600:=by
 have h:=fun k=>chgL_len kind (rowsK a k);have h0:=h 0;have h1:=h 1;have h2:=h 2;have h3:=h 3;unfold fsumR;simp only [List.length_append];omega
theorem fsumR_row {kind:Int} {a:List Rw} {r:Rw} (hr:r∈fsumR kind a):rwOkB r=true /\ -2<=r.2/\r.2<=2:=by
 unfold fsumR at hr;simp only [List.mem_append] at hr
 rcases hr with ((hr|hr)|hr)|hr<;>exact chgT_row (jt_ok _) hr
theorem fsumR_abs (kind:Int) (a:List Rw):absum (fsumR kind a)<=819200:=by
 have h1:=absum_le (l:=fsumR kind a) (c:=2) (fun _ hr=>(fsumR_row hr).2);have h2:=fsumR_len kind a;omega
theorem fsumR_sp {kind:Int} {a:List Rw}:∀ r∈fsumR kind a,spOk r.1:=fun _ hr=>rw_sp (fsumR_row hr).1
theorem l3Key_part {kind:Int} (h:inB kind 1 3=true) (key:Int) (u:Value) (s:List It) (W:World) (hs:Is W u s) (hk:sokB s=true) :
  Calls Tryz.prog 256 #[u, .int .i64 key, .int .i64 kind] W fun e w'=>∃ o:Value,e= .returned o/\OwnI w' W.heap.size o (partK kind s key)/\Below W.heap.size W w':=by
 have h':kind=1\/kind=2\/kind=3:=by simp [inB] at h;omega
 rcases h' with rfl|rfl|rfl
 ·exact l3Key_1 u s key W hs hk
 ·exact l3Key_2 u s key W hs hk
 ·exact l3Key_3 u s key W hs hk
theorem l11Sum_any (v:Value) (l:List Rw) (kind:Int) (w:World) (h:Rs w v l) (hk:rokB l=true) (hw:inB kind 1 3=true) :
  Calls Tryz.prog 190 #[v, .int .i64 kind] w fun e w'=>∃ o:Value,e= .returned o/\OwnR w' w.heap.size o (sumL ltS (fsumR kind l))/\Below w.heap.size w w':=by
 have HI:Hid (Rs w v l):=h;have HF:Hid (∀ (key:Int) (W:World),0<=key->key<=3->Rs W v l->Calls Tryz.prog 230 #[v, .int .i64 key, .int .i64 kind] W fun e w'=>∃ o:Value,e= .returned o/\OwnR w' W.heap.size o (chgL kind (rowsK l key))/\Below W.heap.size W w'):=fun key W h0 h3 hR=>l11Key_any v l key kind W hR hk h0 h3 (fun u s W'=>l3Key_part hw key u s W');have HL:Hid (∀ k,(accG (fun k=>chgL kind (rowsK l k)) k).length<=k*102400):=accG_len fun k=>chgL_len kind (rowsK l k);have HL1:Hid (∀ k,(chgL kind (rowsK l k)).length<=102400):=fun k=>chgL_len kind (rowsK l k);have H4:Hid (accG (fun k=>chgL kind (rowsK l k)) 4=fsumR kind l):=accG_four kind l;have hfl:=fsumR_len kind l;have hfa:=fsumR_abs kind l;have oE:=oEz w rfl;have hbE:=bAz (Below.refl _ w) (.cells #[] 55);clear h;go_enter Tryz.func190,Tryz.ntmps190;go_wp2_with fail
 go_loopw [5,6] (fun o i wr=>∃ k:Nat,k<=4/\i= .int .i64 k/\OwnR wr w.heap.size o (accG (fun k=>chgL kind (rowsK l k)) k)/\Below w.heap.size w wr) (fun _ i _=>4-(intOf i).toNat)
 case atStart=>exact ⟨0,by omega,rfl,oE,hbE⟩
 case round =>
  clear oE hbE;obtain ⟨k,hk4,rfl,hown,hb⟩:=hrel;have HO:Hid (OwnR wr w.heap.size u5 (accG (fun k=>chgL kind (rowsK l k)) k)):=hown;clear hown;have hsz:=hb.size
  by_cases hlt:k<4
  ·have ik:(k:Int)<4:=by omega
   go_wp2_with fail;refine (HF.out k _ (by omega) (by omega) (HI.out.keep hb)).mono ?_;rintro e w2 ⟨o2,rfl,own2,hb2⟩;have h1:=HL.out k;have h2:=HL1.out k;have is2:=OwnR.rs own2 (by omega);have hbn2:=bSz hb hb2;have hsn2:=hbn2.size;have O2:OwnR w2 w.heap.size u5 (accG (fun k=>chgL kind (rowsK l k)) k):=oK HO.out hb2;have HZ:Hid (accG (fun k=>chgL kind (rowsK l k)) (k+1)=accG (fun k=>chgL kind (rowsK l k)) k++chgL kind (rowsK l k)):=rfl;clear HO hb hb2 own2;generalize accG (fun k=>chgL kind (rowsK l k)) k=LL at *;generalize chgL kind (rowsK l k)=MM at *
   go_wp2_with (at_builtin;refine appRs _ rfl _ _ rfl w.heap.size _ LL rfl O2 _ MM rfl is2 (by omega) (by omega) ?_;intro v5 w5 own5 hg5)
   have hb5:Below w.heap.size w w5:=Below.grew hbn2 hg5 (by omega) (oB O2);exact ⟨⟨k+1,by omega,by go_num,by rw [HZ.out];exact own5,hb5⟩,by simp [intOf];omega⟩
  ·obtain rfl:k=4:=by omega
   rw [H4.out] at HO;have R4:=OwnR.rs HO.out (by omega);go_wp2_with fail;refine (l2Sum_any _ _ _ R4 (by omega) (by omega)).mono ?_;rintro e w6 ⟨o6,rfl,own6,hb6⟩;have O6:Hid (OwnR w6 wr.heap.size o6 (sumL ltS (fsumR kind l))):=own6;clear own6;go_wp2_with fail;go_ret;exact ⟨_,rfl,oLz O6.out hsz,bSz hb hb6⟩
end Go.Proofs.YtbdpcngcbnoioaaGreatDoor
