import Derived.Test.YtbdpcngcbnoioaaGreatDoorGs2
import Derived.RangeFuncNested
import Derived.RangeFuncBound
import Derived.RangeFuncCalls
import Derived.RangeFuncLeaves
import Derived.Shelf.Abstract
import Derived.Shelf.RegionOpen
import Derived.WalkKit
import Derived.OwnWalkIn
import Derived.TacticsInMore
import Derived.LoopNIn
import Derived.LoopIn
set_option maxRecDepth 100000
set_option maxHeartbeats 8000000
namespace Go.Proofs.YtbdpcngcbnoioaaGreatDoor
open Go.RowKit
def upR (r:It):Rw:=((r.1,(0,0)),r.2)
def dnR (r:Rw):It:=(r.1.1,r.2)
theorem up_tot (l:List It) (s:Int×Int):tot (l.map upR) (s,(0,0))=tot l s:=by
 induction l with
 | nil=>rfl
 | cons r l ih =>
  simp only [List.map_cons,tot,ih]
  congr 1
  simp [upR]
theorem dn_tot {l:List Rw} (h:∀ r∈l,r.1.2=(0,0)) (s:Int×Int):tot (l.map dnR) s=tot l (s,(0,0)):=by
 induction l with
 | nil=>rfl
 | cons r l ih =>
  simp only [List.map_cons,tot,ih (fun q hq=>h q (by simp [hq]))]
  congr 1
  have h1:=h r (by simp);have:(r.1=(s,((0:Int),(0:Int))))↔r.1.1=s:=by
   constructor
   ·intro e;rw [e]
   ·intro e;exact Prod.ext e h1
  by_cases e:r.1.1=s
  ·rw [if_pos (show (dnR r).1=s from e),if_pos (this.2 e)];rfl
  ·rw [if_neg (show ¬ (dnR r).1=s from e),if_neg (fun h=>e (this.1 h))]
theorem sum_zero {l:List It} {r:Rw} (h:r∈sumL ltS (l.map upR)):r.1.2=(0,0):=by
 obtain ⟨h1,h2⟩:=(srt_mem ltS_ord (sumL_srt ltS_ord _) (sumL_nz ltS _) r).1 h;rw [sumL_tot ltS_ord] at h2;refine Classical.byContradiction fun hn=>h1 ?_;rw [<- h2];refine tot_of_not fun q hq e=>hn ?_;obtain ⟨x,_,rfl⟩:=List.mem_map.1 hq;rw [<- e];rfl
theorem sum_items (l:List It):(sumL ltS (l.map upR)).map dnR=sumL ltT l:=by
 refine sumL_uniq ltT_ord ?_ ?_ ?_
 ·unfold Srt;rw [List.pairwise_map];have h0:=sumL_srt ltS_ord (l.map upR);unfold Srt at h0;refine List.Pairwise.imp_of_mem ?_ h0;intro p q hp hq h;have e1:=sum_zero hp;have e2:=sum_zero hq;rw [ltS,e1,e2] at h
  show ltT p.1.1 q.1.1=true
  simpa [ltT] using h
 ·intro r hr;obtain ⟨q,hq,rfl⟩:=List.mem_map.1 hr;exact sumL_nz ltS _ q hq
 ·intro s;rw [dn_tot (fun r hr=>sum_zero hr),sumL_tot ltS_ord,up_tot]
theorem up_abs (l:List It):absum (l.map upR)=absum l:=by
 induction l with
 | nil=>rfl
 | cons r l ih=>simp only [List.map_cons,absum,ih];rfl
theorem up_snoc {l:List It} {k:Nat} {K V D:Int} (h:l[k]?=some ((K,V),D)):(l.take (k+1)).map upR=(l.take k).map upR++[(((K,V),(0,0)),D)]:=by
 rw [tSz h,List.map_append];rfl
theorem dn_snoc {l:List Rw} {k:Nat} {K V A B D:Int} (h:l[k]?=some (((K,V),(A,B)),D)):(l.take (k+1)).map dnR=(l.take k).map dnR++[((K,V),D)]:=by
 rw [tSz h,List.map_append];rfl
section
variable {ops:Array Oper} {o:Oper} {a:Act} {Kk:Act->World->Prop} {Q:Exit->Act->World->Prop} {E:Prop}
theorem stepR (w:World) (hgd:o.guard=none) (s x:Operand) (ho:o.op= .call { callee:= .builtin .append,args:=#[s,x],argTypes:=#[28,28] })
  (base:Nat) (v:Value) (l:List Rw) (hs:a.eval s=v) (hown:OwnR w base v l) (g0:Nat) (K V A B D:Int) (hx:a.eval x= .slice (some ⟨g0,0,none⟩) 1 1)
  (hc:Bk w g0 #[.int .i64 K, .int .i64 V, .int .i64 A, .int .i64 B, .int .i64 D] 55) (hl:l.length<=2000000) (hbase:base<=w.heap.size)
  (h:∀ g cap w',OwnR w' base (.slice (some ⟨g,0,none⟩) (l.length+1) cap) (l++[(((K,V),(A,B)),D)])->w.grownBy w' v.ownBlock->g<w'.heap.size->Kk (a.put o.dst (.slice (some ⟨g,0,none⟩) (l.length+1) cap)) w') :
  if Region.wanted o (yielded ops a.tmps)=true then Oper.wp Tryz.prog o a w Kk Q else E:=by
 obtain ⟨i0,hi,hz0,hz1,hz2⟩:=info_parts infoR;refine step_append_lies w hgd s x 28 ho base 55 i0 _ 5 40 Tryz.underlying28 hi hz0 hz1 hz2 rfl (by decide) v l.length (l.flatMap rowC) hs hown ⟨g0,0,none⟩ 1 1 (rowC (((K,V),(A,B)),D)) hx rfl (newsL hc) (onesR _) (by omega) (by unfold maxLen;omega) (by omega) hbase w.heap.size rfl ?_;intro g cap w' h1 h2 _ h4;refine h g cap w' ?_ h2 h4
 show w'.ownsRow _ _ _ _ _ _
 rw [List.flatMap_append];simpa using h1
theorem stepI (w:World) (hgd:o.guard=none) (s x:Operand) (ho:o.op= .call { callee:= .builtin .append,args:=#[s,x],argTypes:=#[35,35] })
  (base:Nat) (v:Value) (l:List It) (hs:a.eval s=v) (hown:OwnI w base v l) (g0:Nat) (K V D:Int) (hx:a.eval x= .slice (some ⟨g0,0,none⟩) 1 1)
  (hc:Bk w g0 #[.int .i64 K, .int .i64 V, .int .i64 D] 98) (hl:l.length<=2000000) (hbase:base<=w.heap.size)
  (h:∀ g cap w',OwnI w' base (.slice (some ⟨g,0,none⟩) (l.length+1) cap) (l++[((K,V),D)])->w.grownBy w' v.ownBlock->g<w'.heap.size->Kk (a.put o.dst (.slice (some ⟨g,0,none⟩) (l.length+1) cap)) w') :
  if Region.wanted o (yielded ops a.tmps)=true then Oper.wp Tryz.prog o a w Kk Q else E:=by
 obtain ⟨i0,hi,hz0,hz1,hz2⟩:=info_parts infoI;refine step_append_lies w hgd s x 35 ho base 98 i0 _ 3 24 Tryz.underlying35 hi hz0 hz1 hz2 rfl (by decide) v l.length (l.flatMap itC) hs hown ⟨g0,0,none⟩ 1 1 (itC ((K,V),D)) hx rfl (newsL hc) (onesI _) (by omega) (by unfold maxLen;omega) (by omega) hbase w.heap.size rfl ?_;intro g cap w' h1 h2 _ h4;refine h g cap w' ?_ h2 h4
 show w'.ownsRow _ _ _ _ _ _
 rw [List.flatMap_append];simpa using h1
end
theorem l2Items_any (v:Value) (l:List It) (w:World) (h:Is w v l) (hl:l.length<=1000000) (ha:absum l<=2305843009213693952) :
  Calls Tryz.prog 134 #[v] w fun e w'=>∃ o:Value,e= .returned o/\OwnI w' w.heap.size o (sumL ltT l)/\Below w.heap.size w w':=by
 have o0:=oEz w rfl;have hb0:=bAz (Below.refl w.heap.size w) (.cells #[] 55);have HE:Hid ((sumL ltS (l.map upR)).map dnR=sumL ltT l):=sum_items l;have hua:=up_abs l;have hul:(l.map upR).length=l.length:=by simp
 have hsl:=sumL_len ltS (l.map upR);obtain ⟨a,cap,rfl,hc,hm,hn,hcells⟩:=Is.open h;unfold maxLen at hm;have HC:=(show Hid _ from hcells);clear hcells h;go_enter Tryz.func134,Tryz.ntmps134;go_wp2_with fail
 go_loopw [3,4] (fun o i wr=>∃ k:Nat,k<=l.length/\i= .int .i64 k/\OwnR wr w.heap.size o ((l.take k).map upR)/\Below w.heap.size w wr) (fun _ i _=>l.length-(intOf i).toNat)
 case atStart=>exact ⟨0,by omega,rfl,o0,hb0⟩
 case round =>
  clear o0 hb0;obtain ⟨k,hkl,rfl,hown,hb⟩:=hrel;have HO:Hid (OwnR wr w.heap.size u3 ((l.take k).map upR)):=hown;clear hown
  by_cases hlt:k<l.length
  ·obtain ⟨g,off,K,V,D,rfl,hg,hr,c0,c1,c2⟩:=HC.out k hlt;have HZ:=(show Hid _ from up_snoc hr);have d0:=cB hb c0;have d1:=cB hb c1;have d2:=cB hb c2;have hL:((l.take k).map upR).length<=1000000:=by simp;omega
   have O1:OwnR wr w.heap.size u3 ((l.take k).map upR):=HO.out;have hs1:=hb.size;have C0:=(show Hid _ from c0);have C1:=(show Hid _ from c1);have C2:=(show Hid _ from c2);clear c0 c1 c2 hr HO;generalize (l.take k).map upR=L at *;have HX:Hid (∀ W,Below w.heap.size w W->W.cell? ⟨g,off+k*3,none⟩=some (.int .i64 K)/\W.cell? ⟨g,off+k*3+1,none⟩=some (.int .i64 V)/\W.cell? ⟨g,off+k*3+2,none⟩=some (.int .i64 D)) :=
    fun W hW=>⟨cB hW C0.out,cB hW C1.out,cB hW C2.out⟩
   clear C0 C1 C2;go_wp2_with fail
   go_region_held3 (fun w'=>w'.cell? ⟨g,off+k*3,none⟩=some (.int .i64 K)/\w'.cell? ⟨g,off+k*3+1,none⟩=some (.int .i64 V)/\w'.cell? ⟨g,off+k*3+2,none⟩=some (.int .i64 D))
    (first|exact HX.out _ hb.drew|exact HX.out _ (bAz hb _).drew|exact HX.out _ (bAz hb.drew _)|exact HX.out _ hb7)
    (first
     | (refine stepR _ (by rfl) _ _ (by rfl) w.heap.size _ L (by rfl) ((O1.alloc _).drew) _ K V 0 0 D (by rfl) ((Bk.new _ _ rfl).drew) (by omega) (by simp;omega) ?_;intro g7 cap7 w7 own7 hgrow hlg;have hb7:Below w.heap.size w w7:=Below.grew (bAz hb _).drew hgrow (by simp;omega) (oB O1)))
   go_wp2_with fail;go_roundw
   case rel =>
    refine ⟨k+1,by omega,by go_num,?_,hb7⟩;rw [HZ.out];exact own7
   case measure=>simp [intOf];omega
  ·obtain rfl:k=l.length:=by omega
   have O1:Hid (OwnR wr w.heap.size u3 (l.map upR)):=by have:=HO.out;rw [List.take_length] at this;exact this
   have R1:Rs wr u3 (l.map upR):=OwnR.rs O1.out (by omega);have hs1:=hb.size;clear HO HC;go_wp2_with fail;refine (l2Sum_any _ (l.map upR) _ R1 (by omega) (by omega)).mono ?_;rintro e w2 ⟨o2,rfl,own2,hb2⟩;have hs2:=hb2.size;have hbw2:=bSz hb hb2;have R2:=OwnR.rs own2 (by omega);clear own2 O1 R1 hb hb2;obtain ⟨a2,cap2,rfl,hc2,hm2,hn2,hcells2⟩:=Rs.open R2;unfold maxLen at hm2;have HC2:=(show Hid _ from hcells2);have oI:=ownI_empty w2 rfl;have hbI:=bAz hbw2 (.cells #[] 98);clear hcells2 R2;generalize sumL ltS (l.map upR)=sm at *;go_wp2_with fail
   go_loopw [6,7] (fun o i wr=>∃ k:Nat,k<=sm.length/\i= .int .i64 k/\OwnI wr w2.heap.size o ((sm.take k).map dnR)/\Below w2.heap.size w2 wr) (fun _ i _=>sm.length-(intOf i).toNat)
   case atStart=>exact ⟨0,by omega,rfl,oI,bAz (Below.refl _ _) _⟩
   case round =>
    clear oI hbI;obtain ⟨k,hkl,rfl,hown,hb⟩:=hrel;have HO:Hid (OwnI wr w2.heap.size u6 ((sm.take k).map dnR)):=hown;clear hown
    by_cases hlt:k<sm.length
    ·obtain ⟨g,off,K,V,A,B,D,rfl,hg,hr,c0,c1,c2,c3,c4⟩:=HC2.out k hlt;have HZ:=(show Hid _ from dn_snoc hr);have d0:=cB hb c0;have d1:=cB hb c1;have d4:=cB hb c4;have hL:((sm.take k).map dnR).length<=1000000:=by simp;omega
     have O1:OwnI wr w2.heap.size u6 ((sm.take k).map dnR):=HO.out;have hs3:=hb.size;have C0:=(show Hid _ from c0);have C1:=(show Hid _ from c1);have C4:=(show Hid _ from c4);clear c0 c1 c2 c3 c4 hr HO;generalize (sm.take k).map dnR=L at *;have HX:Hid (∀ W,Below w2.heap.size w2 W->W.cell? ⟨g,off+k*5,none⟩=some (.int .i64 K)/\W.cell? ⟨g,off+k*5+1,none⟩=some (.int .i64 V)/\W.cell? ⟨g,off+k*5+4,none⟩=some (.int .i64 D)) :=
      fun W hW=>⟨cB hW C0.out,cB hW C1.out,cB hW C4.out⟩
     clear C0 C1 C4;go_wp2_with fail
     go_region_held3 (fun w'=>w'.cell? ⟨g,off+k*5,none⟩=some (.int .i64 K)/\w'.cell? ⟨g,off+k*5+1,none⟩=some (.int .i64 V)/\w'.cell? ⟨g,off+k*5+4,none⟩=some (.int .i64 D))
      (first|exact HX.out _ hb.drew|exact HX.out _ (bAz hb _).drew|exact HX.out _ (bAz hb.drew _)|exact HX.out _ hb7)
      (first
       | (refine stepI _ (by rfl) _ _ (by rfl) w2.heap.size _ L (by rfl) ((O1.alloc _).drew) _ K V D (by rfl) ((Bk.new _ _ rfl).drew) (by omega) (by simp;omega) ?_;intro g7 cap7 w7 own7 hgrow hlg;have hb7:Below w2.heap.size w2 w7:=Below.grew (bAz hb _).drew hgrow (by simp;omega) (oB O1)))
     go_wp2_with fail;go_roundw
     case rel =>
      refine ⟨k+1,by omega,by go_num,?_,hb7⟩;rw [HZ.out];exact own7
     case measure=>simp [intOf];omega
    ·obtain rfl:k=sm.length:=by omega
     have O1:Hid (OwnI wr w2.heap.size u6 (sm.map dnR)):=by have:=HO.out;rw [List.take_length] at this;exact this
     clear HO;go_wp2_with fail;go_ret;refine ⟨_,rfl,?_,bSz hbw2 hb⟩;rw [<- HE.out];exact oLz O1.out (by omega)
theorem items_no1 {l:List Rw} {x y:Int} (h:rokB l=false):itemsL l x y=[]:=by simp [itemsL,h]
theorem items_no2 {l:List Rw} {x y:Int} (h:okB x y=false):itemsL l x y=[]:=by simp [itemsL,h]
theorem items_yes {l:List Rw} {x y:Int} (h:rokB l=true) (h':okB x y=true):itemsL l x y=sumL ltT (atL l x y):=by simp [itemsL,h,h']
theorem atL_len (l:List Rw) (x y:Int):(atL l x y).length<=l.length:=by
 unfold atL;rw [List.length_map];exact List.length_filter_le _ _
theorem items_len (l:List Rw) (x y:Int):(itemsL l x y).length<=400:=by
 unfold itemsL
 split
 ·rename_i h;simp at h;have h1:=rLz h.1;have h2:=atL_len l x y;have h3:=sumL_len ltT (atL l x y);omega
 ·simp
theorem atL_yes {l:List Rw} {x y:Int} {k:Nat} {K V A B D:Int} (h:l[k]?=some (((K,V),(A,B)),D)) (hl:leB A B x y=true):atL (l.take (k+1)) x y=atL (l.take k) x y++[((K,V),D)]:=by
 unfold atL;rw [tSz h,List.filter_append,List.map_append];simp [hl]
theorem atL_no {l:List Rw} {x y:Int} {k:Nat} {K V A B D:Int} (h:l[k]?=some (((K,V),(A,B)),D)) (hl:leB A B x y=false):atL (l.take (k+1)) x y=atL (l.take k) x y:=by
 unfold atL;rw [tSz h,List.filter_append,List.map_append];simp [hl]
theorem atL_abs {l:List Rw} {x y:Int}:absum (atL l x y)<=absum l:=by
 unfold atL
 induction l with
 | nil=>simp [absum]
 | cons r l ih =>
  rw [List.filter_cons]
  split
  ·simp only [List.map_cons,absum];omega
  ·simp only [absum];omega
theorem specTimeOk_eq {a b:Int} {r:Bool} (h:okB a b=r) (w:World):Calls Tryz.prog 65 #[tv a b] w fun e w'=>e= .returned (.bool r)/\Below w.heap.size w w':=by
 rw [<- h];exact specOk_any a b w
theorem bAllocT {B:Nat} {a w:World} (h:Below B a w) (hB:B<=w.heap.size) (o:Obj):Below B a (w.alloc o) :=
 h.trans ⟨rfl,rfl,rfl,by simp,fun k hk=>Below.heap_alloc _ _ _ (by omega)⟩
theorem specAt_any (v:Value) (l:List Rw) (x y:Int) (w:World) (h:Rs w v l) :
  Calls Tryz.prog 66 #[v,tv x y] w fun e w'=>∃ o:Value,e= .returned o/\OwnI w' w.heap.size o (itemsL l x y)/\Below w.heap.size w w':=by
 have bt0:Bk ((w.alloc (.cells #[.int .i64 x, .int .i64 y] 32)).alloc (.cells #[] 98)) w.heap.size #[.int .i64 x, .int .i64 y] 32:=(Bk.new _ _ rfl).alloc _;have hb0:=bAz (bAz (Below.refl w.heap.size w) (.cells #[.int .i64 x, .int .i64 y] 32)) (.cells #[] 98);have o0:OwnI ((w.alloc (.cells #[.int .i64 x, .int .i64 y] 32)).alloc (.cells #[] 98)) w.heap.size (.slice (some ⟨w.heap.size+1,0,none⟩) 0 0) []:=oLz (ownI_empty (w.alloc (.cells #[.int .i64 x, .int .i64 y] 32)) (B:=w.heap.size+1) (by simp)) (by omega);have h0:=h.keep hb0;cases hk:rokB l
 ·have HF:Hid (itemsL l x y=[]):=items_no1 hk;go_enter Tryz.func66,Tryz.ntmps66;go_wp2_with fail;refine (sR hk h0).mono ?_;rintro e w1 ⟨rfl,hb1⟩;have O1:Hid (OwnI w1 w.heap.size (.slice (some ⟨w.heap.size+1,0,none⟩) 0 0) []):=oK o0 hb1;clear o0 bt0;go_wp2_with fail;go_ret;refine ⟨_,rfl,?_,bSz hb0 hb1⟩;rw [HF.out];exact O1.out
 cases hk':okB x y
 ·have HF:Hid (itemsL l x y=[]):=items_no2 hk';go_enter Tryz.func66,Tryz.ntmps66;go_wp2_with fail;refine (sR hk h0).mono ?_;rintro e w1 ⟨rfl,hb1⟩;have hbw1:=bSz hb0 hb1;have O1:Hid (OwnI w1 w.heap.size (.slice (some ⟨w.heap.size+1,0,none⟩) 0 0) []):=oK o0 hb1;obtain ⟨t0,t1,_,_⟩:=(bt0.keep hb1).two;clear o0 bt0;go_wp2_with fail;refine (specTimeOk_eq hk' _).mono ?_;rintro e w2 ⟨rfl,hb2⟩;have O2:Hid (OwnI w2 w.heap.size (.slice (some ⟨w.heap.size+1,0,none⟩) 0 0) []):=oK O1.out hb2;go_wp2_with fail;go_ret;refine ⟨_,rfl,?_,bSz hbw1 hb2⟩;rw [HF.out];exact O2.out
 have HF:Hid (itemsL l x y=sumL ltT (atL l x y)):=items_yes hk hk';have ha:=rok_abs hk;have hna:=atL_abs (l:=l) (x:=x) (y:=y);have hl:=rLz hk;have hal:=atL_len l x y;have o0:=ownI_empty (w.alloc (.cells #[.int .i64 x, .int .i64 y] 32)) (B:=w.heap.size+1) (by simp);have hsz0:((w.alloc (.cells #[.int .i64 x, .int .i64 y] 32)).alloc (.cells #[] 98)).heap.size=w.heap.size+1+1:=by simp
 obtain ⟨a,cap,rfl,hc,hm,hn,hcells⟩:=Rs.open h;unfold maxLen at hm;have HC:=(show Hid _ from hcells);clear h hcells;go_enter Tryz.func66,Tryz.ntmps66;go_wp2_with fail;generalize ((w.alloc (.cells #[.int .i64 x, .int .i64 y] 32)).alloc (.cells #[] 98))=w0 at *;refine (sR hk h0).mono ?_;rintro e w1 ⟨rfl,hb1⟩;have hbw1:=bSz hb0 hb1;have o1:=oK o0 hb1;have bt1:=bt0.keep hb1;have hs1:=hb1.size;obtain ⟨t0,t1,_,_⟩:=bt1.two;clear o0 bt0 hb0 hb1 h0;go_wp2_with fail;refine (specTimeOk_eq hk' _).mono ?_;rintro e w2 ⟨rfl,hb2⟩;have hbw2:=bSz hbw1 hb2;have o2:=oK o1 hb2;have bt2:=bt1.keep hb2;have hs2:=hb2.size;clear o1 bt1 hbw1 hb2 t0 t1;generalize htb:w.heap.size=tb at *;go_wp2_with fail
 go_loopw [5,6] (fun o i wr=>∃ k:Nat,k<=l.length/\i= .int .i64 k/\OwnI wr (tb+1) o (atL (l.take k) x y)/\Bk wr tb #[.int .i64 x, .int .i64 y] 32/\tb+1<=wr.heap.size/\Below tb w wr) (fun _ i _=>l.length-(intOf i).toNat)
 case atStart=>exact ⟨0,by omega,rfl,o2,bt2,by omega,hbw2⟩
 case round =>
  clear o2 bt2 hbw2;obtain ⟨k,hkl,rfl,hown,bt,hsz,hb⟩:=hrel;have HO:Hid (OwnI wr (tb+1) u5 (atL (l.take k) x y)):=hown;clear hown
  by_cases hlt:k<l.length
  ·obtain ⟨g,off,K,V,A,B,D,rfl,hg,hr,c0,c1,c2,c3,c4⟩:=HC.out k hlt;have HR:=(show Hid _ from hr);have hb':Below w.heap.size w wr:=by rw [htb];exact hb
   have d2:∀ p:Bel wr,p.ww.cell? ⟨g,off+k*5+2,none⟩=some (.int .i64 A):=fun p=>cB p.below (cB hb' c2);have d3:∀ p:Bel wr,p.ww.cell? ⟨g,off+k*5+3,none⟩=some (.int .i64 B):=fun p=>cB p.below (cB hb' c3);have t0:=bt.bel0;have t1:=bt.bel1;have hne:=bel_some wr;have HX:Hid (∀ W,Below tb w W->W.cell? ⟨g,off+k*5,none⟩=some (.int .i64 K)/\W.cell? ⟨g,off+k*5+1,none⟩=some (.int .i64 V)/\W.cell? ⟨g,off+k*5+4,none⟩=some (.int .i64 D)) :=
    fun W hW=>by rw [<- htb] at hW;exact ⟨cB hW c0,cB hW c1,cB hW c4⟩
   have hL:(atL (l.take k) x y).length<=400:=by have:=atL_len (l.take k) x y;simp at this;omega
   have ik:((k:Int)<(l.length:Int)):=by omega
   clear c0 c1 c2 c3 c4 hr hb';cases hp:leB A B x y
   ·have HZ:Hid (atL (l.take (k+1)) x y=atL (l.take k) x y):=atL_no HR.out hp;go_wp2_with fail
    (refine wBz (by kernel_rfl) (by kernel_rfl) ?_;(repeat (go_big_quiet_step ((first|(go_at_call 129;exact clz (specLess_eq (by with_reducible assumption) _))))));refine wpQuiet_nil ?_)
    intro w3 hw3
    replace hw3:=bOz hw3
    have hb3:=hb.trans (hw3.mono (by omega));have hs3:=hw3.size;have bt3:=bt.keep hw3;have O3:Hid (OwnI w3 (tb+1) u5 (atL (l.take k) x y)):=oK HO.out hw3;clear HO bt d2 d3 t0 t1 hne;go_wp2_with fail;go_roundw
    case rel=>exact ⟨k+1,by omega,by go_num,by rw [HZ.out];exact O3.out,bt3,by omega,hb3⟩
    case measure=>simp [intOf];omega
   ·have HZ:Hid (atL (l.take (k+1)) x y=atL (l.take k) x y++[((K,V),D)]):=atL_yes HR.out hp;go_wp2_with fail
    (refine wBz (by kernel_rfl) (by kernel_rfl) ?_;(repeat (go_big_quiet_step ((first|(go_at_call 129;exact clz (specLess_eq (by with_reducible assumption) _))))));refine wpQuiet_nil ?_)
    intro w3 hw3
    replace hw3:=bOz hw3
    have hb3:=hb.trans (hw3.mono (by omega));have hs3:=hw3.size;have bt3:=bt.keep hw3;have O3:OwnI w3 (tb+1) u5 (atL (l.take k) x y):=oK HO.out hw3;obtain ⟨x0,x1,x4⟩:=HX.out w3 hb3;have hB3:tb<=w3.heap.size:=by omega
    clear HO bt d2 d3 t0 t1 hne hb hw3;generalize atL (l.take k) x y=L at *;go_wp2_with fail
    go_region_held3 (fun w'=>w'.cell? ⟨g,off+k*5,none⟩=some (.int .i64 K)/\w'.cell? ⟨g,off+k*5+1,none⟩=some (.int .i64 V)/\w'.cell? ⟨g,off+k*5+4,none⟩=some (.int .i64 D))
     (first|exact HX.out _ hb3.drew|exact HX.out _ (bAllocT hb3 hB3 _).drew|exact HX.out _ hb7)
     (first
      | (refine stepI _ (by rfl) _ _ (by rfl) (tb+1) _ L (by rfl) ((O3.alloc _).drew) _ K V D (by rfl) ((Bk.new _ _ rfl).drew) (by omega) (by simp;omega) ?_;intro g7 cap7 w7 own7 hgrow hlg;have hb7:Below tb w w7:=Below.grew (bAllocT hb3 hB3 _).drew hgrow (by simp;omega) (fun q e=>Nat.le_of_succ_le (oB O3 q e))))
    have bt7:=Bk.grew ((bt3.alloc _).drew) hgrow (fun q e=>by have:=oB O3 q e;omega);have hs7:tb+1<=w7.heap.size:=by have:=hgrow.size;simp at this;omega
    go_wp2_with fail;go_roundw
    case rel =>
     refine ⟨k+1,by omega,by go_num,?_,bt7,hs7,hb7⟩;rw [HZ.out];exact own7
    case measure=>simp [intOf];omega
  ·obtain rfl:k=l.length:=by omega
   have O1:Hid (OwnI wr (tb+1) u5 (atL l x y)):=by have:=HO.out;rw [List.take_length] at this;exact this
   have R1:Is wr u5 (atL l x y):=OwnI.is O1.out (by omega);clear HO;go_wp2_with fail;refine (l2Items_any _ (atL l x y) _ R1 (by omega) (by omega)).mono ?_;rintro e w3 ⟨o3,rfl,own3,hb3⟩;have O3:Hid (OwnI w3 wr.heap.size o3 (sumL ltT (atL l x y))):=own3;clear own3;go_wp2_with fail;go_ret;refine ⟨_,rfl,?_,by rw [htb];exact hb.trans (hb3.mono (by omega))⟩;rw [HF.out];exact oLz O3.out (by omega)
open Go.ChangeMaps (setBlock)
theorem itemsOf_any (b:Nat) (M:List It) (w:World) (hmap:MapIs thV thOk w b M) (hMl:M.length<=1000000) :
  Calls Tryz.prog 107 #[.map (some b)] w fun e w'=>∃ o:Value,e= .returned o/\OwnI w' w.heap.size o (sumL ltT M)/\Below w.heap.size w w':=by
 have hmt:=hmap.lt;go_enter Tryz.func107,Tryz.ntmps107
 go_wp2_with (at_range;refine wp_range _ rfl _ _ rfl _ _ Tryz.underlying126 _ M rfl hmap ?_;intro w0 hrg hb0 hs0)
 go_frame
 clear hmap
 go_loopw [3] (fun o wr=>∃ (done left L:List It),Ranging thV thOk wr b w.heap.size M left/\M.Perm (done++left)/\L.Perm (done.filter fun r=>decide (r.2≠0))/\OwnI wr (w.heap.size+1) o L/\w.heap.size+1<=wr.heap.size/\Below w.heap.size w wr) (fun _ wr=>leftN wr b w.heap.size)
 case atStart=>exact ⟨[],M,[],hrg,by simp,by simp,oN _ _ _ _ _,by omega,hb0⟩
 case round =>
  clear hrg hb0 hs0;obtain ⟨done,left,L,hrg,hpm,hpl,hown,hsz,hb⟩:=hrel;have HPM:=(show Hid _ from hpm);have HPL:=(show Hid _ from hpl);have HO:Hid (OwnI wr (w.heap.size+1) u3 L):=hown;have hcnt:=hrg.count;have hLM:L.length<=M.length:=by
   have h1:=hpl.length_eq;have h2:=List.length_filter_le (fun r:It=>decide (r.2≠0)) done;have h3:=hpm.length_eq;simp at h3;omega
  have hM:=(show Hid _ from hrg.nodup);clear hpm hpl hown
  go_wp2_with (at_next;refine wp_next _ rfl _ rfl _ _ M left rfl hrg ?_ ?_)
  ·intro hz;subst hz;have O1:OwnI wr (w.heap.size+1) u3 L:=HO.out;have hdone:L.Perm (M.filter fun r=>decide (r.2≠0)):=by
    have h1:=HPM.out;rw [List.append_nil] at h1;exact HPL.out.trans (h1.filter _).symm
   have HD:=(show Hid _ from hdone);clear hdone HO HPM HPL hcnt;have hll:L.length<=2097152:=by omega
   go_wp2_with fail;refine (sortI_any O1 hll hsz).mono ?_;rintro e w2 ⟨rfl,l',hp,hsrt,own2,hb2⟩;have hfin:l'=sumL ltT M:=collected ltT_ord hM.out (fun _=>rfl) HD.out hp hsrt;have hbw:Below w.heap.size w w2:=hb.trans (hb2.mono (by omega));have O2:Hid (OwnI w2 (w.heap.size+1) u3 l'):=own2;clear own2 hp hsrt O1;go_wp2_with fail;go_ret;refine ⟨_,rfl,?_,hbw⟩;rw [<- hfin];exact oLz O2.out (by omega)
  ·intro K V D left' w1 hp hrg1 hen hx hs1 hl1;have O1:OwnI w1 (w.heap.size+1) u3 L:=ownK_beside HO.out hx (fun q e=>by have:=oB HO.out q e;omega);have hb1:Below w.heap.size w w1:=hx.below hb hb.size (by omega);have hsz1:w.heap.size+1<=w1.heap.size:=by omega
   have hcnt1:=hrg1.count;clear hx hrg hb HO hs1
   by_cases hD:D=0
   ·subst hD;have HZ:=(show Hid _ from collect_no HPM.out hp HPL.out rfl);have hrg2:=hrg1.keep (bAz (Below.refl _ w1) (.cells #[.int .i64 K, .int .i64 V] 131));have O2:Hid (OwnI (w1.alloc (.cells #[.int .i64 K, .int .i64 V] 131)) (w.heap.size+1) u3 L):=O1.alloc _;clear O1 HPM HPL hp;go_wp2_with fail;go_roundw
    case rel=>exact ⟨_,left',L,hrg2,HZ.out.1,HZ.out.2,O2.out,by simp;omega,bAz hb1 _⟩
    case measure=>rw [hrg2.count];omega
   ·have nD:(D==0)=false:=by simpa using hD
    have HZ:=(show Hid _ from collect_yes HPM.out hp HPL.out hD);clear HPM HPL hp
    go_wp2_with (at_builtin;refine appI _ rfl _ _ rfl (w.heap.size+1) _ _ rfl ((O1.alloc _).alloc _) _ _ _ _ rfl (Bk.new _ _ (by simp)) (by omega) (by simp;omega) ?_;intro g3 cap3 w3 own3 hgrow hlg)
    have hrg3:=(hrg1.keep (bAz (bAz (Below.refl _ w1) (.cells #[.int .i64 K, .int .i64 V] 131)) (.cells #[.int .i64 K, .int .i64 V, .int .i64 D] 98))).grew hgrow (fun q e=>by have:=oB O1 q e;omega);have hb3:Below w.heap.size w w3:=Below.grew (bAz (bAz hb1 _) _) hgrow (by simp;omega) (fun q e=>by have:=oB O1 q e;omega);have hs3:w.heap.size+1<=w3.heap.size:=by have:=hgrow.size;simp at this;omega
    go_roundw
    case rel=>exact ⟨_,left',L++[((K,V),D)],hrg3,HZ.out.1,HZ.out.2,own3,hs3,hb3⟩
    case measure=>rw [hrg3.count];omega
open Go.Shelf
open Go.ChangeMaps (setBlock)
attribute [local go_sem] Oper.semAt_some
structure Kx (N mb:Nat) (W W':World):Prop where
 size:W.heap.size<=W'.heap.size
 block:∀ k,k<N->k≠mb->W'.heap[k]?=W.heap[k]?
theorem Kx.refl (N mb:Nat) (W:World):Kx N mb W W:=⟨Nat.le_refl _,fun _ _ _=>rfl⟩
theorem Kx.trans {N mb:Nat} {A B C:World} (h:Kx N mb A B) (k:Kx N mb B C):Kx N mb A C:=⟨Nat.le_trans h.size k.size,fun i hi hm=>(k.block i hi hm).trans (h.block i hi hm)⟩
abbrev XI:={ x:It // thOk x.1 /\ -99999<=x.2/\x.2<=99999 }
theorem Kx.bk {N mb:Nat} {W W':World} {k:Nat} {c:Array Value} {t:TypeId} (h:Kx N mb W W') (hb:Bk W k c t) (hk:k<N) (hm:k≠mb):Bk W' k c t:=by
 unfold Bk;rw [h.block k hk hm];exact hb
theorem there_any (a:Option Addr) (n cap:Nat) (x y:Int) (w:World) :
  Calls Tryz.prog 106 #[.slice a n cap,tv x y] w fun e w'=>e= .returned (.func (.func 176) #[] #[.pointer (some ⟨w.heap.size,0,none⟩), .pointer (some ⟨w.heap.size+1,0,none⟩)])/\w'=(w.alloc (.cells #[.slice a n cap] 28)).alloc (.cells #[.int .i64 x, .int .i64 y] 32):=by
 go_enter Tryz.func106,Tryz.ntmps106;go_wp2_with fail;go_ret;exact ⟨rfl,rfl⟩
theorem implLess_is {a b c d:Int} {r:Bool} (h:leB a b c d=r) (w:World):Calls Tryz.prog 90 #[tv a b,tv c d] w fun e w'=>e= .returned (.bool r)/\Below w.heap.size w w':=by
 rw [<- h];exact implLess_any a b c d w
abbrev encX (z:XI):Array Value:=#[thV z.1.1, .int .i64 z.1.2]
theorem there1_in (lp b1 b2 N mb:Nat) (a:Option Addr) (cap:Nat) (l:List Rw) (x y:Int) (J Jx:List XI->World->Prop) (w W:World)
  (hJ:∀ pre A B,J pre A->Below A.heap.size A B->J pre B)
  (hY:∀ pre z W,J pre W->pre.length<l.length->YieldAt Fence.wide (3-1) Tryz.prog lp (encX z) W fun e W' =>
   (e= .returned (.bool true)/\J (pre++[z]) W'/\Kx N mb W W')\/(e= .returned (.bool false)/\Jx (pre++[z]) W'))
  (hl:l.length<=1000000) (hk:∀ r∈l,rwOkB r=true) (hRs:Rs w (.slice a l.length cap) l) (hB:∀ g,g<w.heap.size->g<N/\g≠mb) (hW:∀ k,k<w.heap.size->W.heap[k]?=w.heap[k]?) (hWs:N<=W.heap.size)
  (hb1:Bk W b1 #[.slice a l.length cap] 28) (hb2:Bk W b2 #[.int .i64 x, .int .i64 y] 32) (h2N:b2<N) (h2m:b2≠mb) (h0:J [] W) :
  CallsIn Fence.wide 3 Tryz.prog 176 #[.func (.yield lp) #[] #[], .pointer (some ⟨b1,0,none⟩), .pointer (some ⟨b2,0,none⟩)] W fun e W'=>(∃ v,e= .returned v) /\
   ((∃ ys:List XI,ys.map (·.1)=atL l x y/\J ys W')\/(∃ pre,True/\Jx pre W')):=by
 have d0:=hb1.cell (i:=0) (v:= .slice a l.length cap) rfl;obtain ⟨a',cap',e,hc,hm,hn,hcells⟩:=Rs.open hRs;cases e;unfold maxLen at hm;have HC:=(show Hid _ from hcells);clear hcells;refine callsIn_of_wp Tryz.func176 rfl trivial ?_ rfl;simp only [Tryz.ntmps176,List.size_toArray,List.length_cons,List.length_nil,Nat.reduceAdd,Nat.reduceSub,Array.replicate_succ,Array.replicate_zero,List.push_toArray,List.append_toArray,List.nil_append,List.cons_append]
 gi_wp2
 gi_loopw [8] (fun i wr=>∃ (k:Nat) (pre:List XI),k<=l.length/\i= .int .i64 k/\pre.map (·.1)=atL (l.take k) x y/\J pre wr/\(∀ k,k<w.heap.size->wr.heap[k]?=w.heap[k]?)/\N<=wr.heap.size/\Bk wr b2 #[.int .i64 x, .int .i64 y] 32) (fun i _=>l.length-(intOf i).toNat)
 case atStart=>exact ⟨0,[],by omega,rfl,rfl,h0,hW,hWs,hb2⟩
 case round =>
  clear d0 h0 hW hWs hb2 hb1;obtain ⟨k,pre,hkl,rfl,hpre,hJp,hW,hWs,hb2⟩:=hrel
  by_cases hlt:k<l.length
  ·obtain ⟨g,off,K,V,A,B,D,rfl,hg,hr,c0,c1,c2,c3,c4⟩:=HC.out k hlt;have HR:=(show Hid _ from hr);have q0:wr.cell? ⟨g,off+k*5,none⟩=some (.int .i64 K):=by rw [World.cell?_of_block (w:=w) (hW g hg)];exact c0
   have q1:wr.cell? ⟨g,off+k*5+1,none⟩=some (.int .i64 V):=by rw [World.cell?_of_block (w:=w) (hW g hg)];exact c1
   have q2:wr.cell? ⟨g,off+k*5+2,none⟩=some (.int .i64 A):=by rw [World.cell?_of_block (w:=w) (hW g hg)];exact c2
   have q3:wr.cell? ⟨g,off+k*5+3,none⟩=some (.int .i64 B):=by rw [World.cell?_of_block (w:=w) (hW g hg)];exact c3
   have q4:wr.cell? ⟨g,off+k*5+4,none⟩=some (.int .i64 D):=by rw [World.cell?_of_block (w:=w) (hW g hg)];exact c4
   clear c0 c1 c2 c3 c4 hr;have ik:((k:Int)<(l.length:Int)):=by omega
   have bt0:Bk (wr.alloc (.cells #[.int .i64 K, .int .i64 V, .int .i64 A, .int .i64 B, .int .i64 D] 55)) wr.heap.size #[.int .i64 K, .int .i64 V, .int .i64 A, .int .i64 B, .int .i64 D] 55:=Bk.new _ _ rfl;have hba:Below wr.heap.size wr (wr.alloc (.cells #[.int .i64 K, .int .i64 V, .int .i64 A, .int .i64 B, .int .i64 D] 55)):=bAz (Below.refl _ _) _;have hb2':=hb2.keep hba;obtain ⟨t0,t1,_,_⟩:=hb2'.two;cases hp:leB A B x y
   ·have HZ:Hid (atL (l.take (k+1)) x y=atL (l.take k) x y):=atL_no HR.out hp
    gi_wp2
    refine ⟨trivial,?_⟩;refine CallsIn.mono (callsIn_wide.2 (implLess_is hp _)) ?_;rintro e w3 ⟨rfl,hb3⟩;have hbw:=bSz hba hb3;have hJ3:=hJ _ _ _ hJp hbw;have hs3:=hbw.size;have hb23:=hb2'.keep hb3;have hW3:∀ k,k<w.heap.size->w3.heap[k]?=w.heap[k]?:=fun k hk=>by
     have:=(hB k hk).1;rw [hbw.block k (by omega)];exact hW k hk
    clear hb2' hb3 hba t0 t1 bt0 q0 q1 q2 q3 q4
    gi_wp2
    refine ⟨fun _ h=>(by cases h),?_⟩
    gi_wp2
    go_roundw
    case rel=>exact ⟨k+1,pre,by omega,by go_num,by rw [HZ.out];exact hpre,hJ3,hW3,by omega,hb23⟩
    case measure=>simp [intOf];omega
   ·have HZ:Hid (atL (l.take (k+1)) x y=atL (l.take k) x y++[((K,V),D)]):=atL_yes HR.out hp;have hrk:=hk _ (List.mem_of_getElem? HR.out);have hth:thOk (K,V) /\ -99999<=D/\D<=99999:=by
     have h1:=rw_sp hrk;have h2:=rw_diff hrk;exact ⟨⟨h1.1,h1.2.1⟩,h2⟩
    have hpl:pre.length<l.length:=by
     have h1:=congrArg List.length hpre;have h2:=atL_len (l.take k) x y;simp at h1 h2;omega
    gi_wp2
    refine ⟨trivial,?_⟩;refine CallsIn.mono (callsIn_wide.2 (implLess_is hp _)) ?_;rintro e w3 ⟨rfl,hb3⟩;have hbw:=bSz hba hb3;have hJ3:=hJ _ _ _ hJp hbw;have hs3:=hbw.size;have hb23:=hb2'.keep hb3;have hW3:∀ k,k<w.heap.size->w3.heap[k]?=w.heap[k]?:=fun k hk=>by
     have:=(hB k hk).1;rw [hbw.block k (by omega)];exact hW k hk
    have bt3:=bt0.keep hb3;obtain ⟨y0,y1,y2,y3,y4⟩:=bt3.five;obtain ⟨fn,tmps,assign,body,hy,hR⟩:=hY pre ⟨((K,V),D),hth⟩ w3 hJ3 hpl;clear hb2' hb3 hba t0 t1 bt0 q0 q1 q2 q3 q4 bt3
    gi_wp2
    refine hR.mono ?_;rintro e W3 (⟨rfl,hJ4,hk4⟩|⟨rfl,hJx4⟩)
    ·have hb24:=hk4.bk hb23 h2N h2m;have hs4:=hk4.size;have hW4:∀ k,k<w.heap.size->W3.heap[k]?=w.heap[k]?:=fun k hk=>by
      have:=hB k hk;rw [hk4.block k this.1 this.2];exact hW3 k hk
     clear hR hy
     gi_wp2
     go_roundw
     case rel=>exact ⟨k+1,pre++[⟨((K,V),D),hth⟩],by omega,by go_num,by rw [HZ.out,List.map_append,hpre];rfl,hJ4,hW4,by omega,hb24⟩
     case measure=>simp [intOf];omega
    ·clear hR hy
     gi_wp2
     refine bodyPost_ret (results_none rfl _ _ _) rfl ?_;exact ⟨⟨_,rfl⟩, .inr ⟨_,trivial,hJx4⟩⟩
  ·obtain rfl:k=l.length:=by omega
   gi_wp2
   go_end0
   exact ⟨⟨_,rfl⟩, .inl ⟨pre,by rw [hpre,List.take_length],hJp⟩⟩
theorem grown_below {A B:World} (h:Below A.heap.size A B):A.grownBy B none:=⟨h.os,h.tape,h.output,h.size,fun k hk _=>h.block k hk⟩
theorem there_stops (b1 b2 mb:Nat) (a:Option Addr) (cap:Nat) (l:List Rw) (x y:Int) (w w0:World) (hl:l.length<=1000000) (hk:∀ r∈l,rwOkB r=true) (hRs:Rs w (.slice a l.length cap) l) (hB:∀ g,g<w.heap.size->g<w0.heap.size/\g≠mb) (hW:∀ k,k<w.heap.size->w0.heap[k]?=w.heap[k]?)
  (hb1:Bk w0 b1 #[.slice a l.length cap] 28) (hb2:Bk w0 b2 #[.int .i64 x, .int .i64 y] 32) (h2m:b2≠mb) :
  SeqStopsK Fence.wide 3 Tryz.prog 176 #[.pointer (some ⟨b1,0,none⟩), .pointer (some ⟨b2,0,none⟩)] encX (Kx w0.heap.size mb) (fun ys=>ys.map (·.1)=atL l x y) (fun _=>True) l.length w0 :=
 fun lp J Jx W hWb hJ _ hY h0 =>
  there1_in lp b1 b2 w0.heap.size mb a cap l x y J Jx w W (fun pre A B h hb=>hJ pre A B none h (grown_below hb) (fun r e=>by cases e)) hY hl hk hRs hB
   (fun k hk=>by rw [hWb.block k (hB k hk).1];exact hW k hk) hWb.size (hb1.keep hWb) (hb2.keep hWb) hb2.lt h2m h0
open Go.ChangeMaps (setBlock)
attribute [local go_sem] Oper.semAt_some
theorem implTimeOk_eq {a b:Int} {r:Bool} (h:okB a b=r) (w:World):Calls Tryz.prog 67 #[tv a b] w fun e w'=>e= .returned (.bool r)/\Below w.heap.size w w':=by
 rw [<- h];exact implOk_any a b w
theorem Kx.put {N mb:Nat} (W:World) (l:Nat) (o o':Obj) (hN:N<=l) (h:W.heap[l]?=some o):Kx N mb W (W.putObj l o'):=by
 have hg:=grownBy_putObj' W l o';exact ⟨hg.size,fun k hk _=>hg.block k (by have:=(Array.getElem?_eq_some_iff.1 h).1;omega) (fun e=>by cases e;omega)⟩
theorem MapIs.grown {κ:Type} {ek:κ->Value} {ok:κ->Prop} {w w1:World} {b:Nat} {M:List (κ×Int)} {row:Option Nat} (h:MapIs ek ok w b M) (hg:w.grownBy w1 row) (hr:∀ r,row=some r->b<r):MapIs ek ok w1 b M :=
 h.move (hg.block b h.lt (fun e=>by have:=hr b e.symm;omega))
theorem setBlock_at {W:World} {b k:Nat} {o:Obj} (h:k≠b):(setBlock W b o).heap[k]?=W.heap[k]?:=by
 simp only [setBlock,Array.getElem?_setIfInBounds];rw [if_neg (Ne.symm h)]
theorem xi_abs (pre:List XI):absum (pre.map (·.1))<=99999*(pre.length:Int):=by
 have:=absum_le (l:=pre.map (·.1)) (c:=99999) (fun r hr=>by
  obtain ⟨z,_,rfl⟩:=List.mem_map.1 hr;exact z.2.2)
 simpa using this
theorem implAt_in (a:Option Addr) (cap:Nat) (l:List Rw) (x y:Int) (w:World) (h:Rs w (.slice a l.length cap) l) (hk:rokB l=true) (hk':okB x y=true) :
  CallsIn Fence.wide 4 Tryz.prog 41 #[.slice a l.length cap,tv x y] w fun e w'=>∃ o:Value,e= .returned o/\OwnI w' w.heap.size o (itemsL l x y)/\Below w.heap.size w w':=by
 have bt0:Bk (w.alloc (.cells #[.int .i64 x, .int .i64 y] 32)) w.heap.size #[.int .i64 x, .int .i64 y] 32:=Bk.new _ _ rfl;have hb0:=bAz (Below.refl w.heap.size w) (.cells #[.int .i64 x, .int .i64 y] 32);have h0:=h.keep hb0;have HF:Hid (itemsL l x y=sumL ltT (atL l x y)):=items_yes hk hk';have hl:=rLz hk;have hal:=atL_len l x y;have hmm:=@run_makeMap Tryz.prog;have HH:Hid (Rs w (.slice a l.length cap) l):=h;clear h;refine callsIn_of_wp_marks Tryz.func41 rfl trivial ?_ rfl;simp only [Tryz.ntmps41,List.size_toArray,List.length_cons,List.length_nil,Nat.reduceAdd,Nat.reduceSub,Array.replicate_succ,Array.replicate_zero,List.push_toArray,List.append_toArray,List.nil_append,List.cons_append]
 gi_wp2
 refine ⟨trivial,?_⟩;refine CallsIn.mono (callsIn_wide.2 (iR hk h0)) ?_;rintro e w1 ⟨rfl,hb1⟩;have hbw1:=bSz hb0 hb1;have bt1:=bt0.keep hb1;obtain ⟨t0,t1,_,_⟩:=bt1.two;clear h0 bt0 hb0 hb1
 gi_wp2
 refine ⟨trivial,?_⟩;refine CallsIn.mono (callsIn_wide.2 (implTimeOk_eq hk' _)) ?_;rintro e w2 ⟨rfl,hb2⟩;have hbw2:=bSz hbw1 hb2;have bt2:=bt1.keep hb2;obtain ⟨t2,t3,_,_⟩:=bt2.two;have hs2:=hbw2.size;clear t0 t1 bt1 hbw1 hb2;have ltb:=bt2.lt;generalize htb:w.heap.size=tb at *
 gi_wp2
 refine ⟨trivial,?_⟩;refine CallsIn.mono (callsIn_wide.2 (there_any _ _ _ _ _ _)) ?_;rintro e W0 ⟨rfl,hW0⟩;have m0:MapIs thV thOk W0 w2.heap.size []:=by
  rw [hW0];exact (((MapIs.new w2 rfl).keep (bAz (Below.refl _ _) _)).keep (bAz (Below.refl _ _) _)).keep (bAz (Below.refl _ _) _)
 have bc0:Bk W0 (w2.heap.size+1) #[.map (some w2.heap.size)] 126:=by
  rw [hW0];exact ((Bk.new (w:=w2.alloc (.map #[] 0)) _ _ (by simp)).alloc _).alloc _
 have b10:Bk W0 (w2.heap.size+1+1) #[.slice a l.length cap] 28:=by
  rw [hW0];exact (Bk.new (w:=(w2.alloc (.map #[] 0)).alloc _) _ _ (by simp)).alloc _
 have b20:Bk W0 (w2.heap.size+1+1+1) #[.int .i64 x, .int .i64 y] 32:=by
  rw [hW0];exact Bk.new (w:=((w2.alloc (.map #[] 0)).alloc _).alloc _) _ _ (by simp)
 have hsz:W0.heap.size=w2.heap.size+1+1+1+1:=by rw [hW0];simp
 have hBW:Below w2.heap.size w2 W0:=by
  rw [hW0];exact bAz (bAz (bAz (bAz (Below.refl _ _) _) _) _) _
 clear hW0 hmm;have hB0:Below tb w W0:=hbw2.trans (hBW.mono hs2)
 gi_wp2
 clear hBW hbw2 bt2 t2 t3;generalize w2.heap.size=mb at *;refine wpIn_rangeFunc_ownH (n:=4) (w0:=W0) rfl (by omega) (gf:=176) (lb:=#[.pointer (some ⟨mb+1+1,0,none⟩), .pointer (some ⟨mb+1+1+1,0,none⟩)]) rfl trivial (enters_of Tryz.func176 (by kernel_rfl) rfl)
  (there_stops (mb+1+1) (mb+1+1+1) mb a cap l x y w W0 (by omega) (fun r hr=>rok_at hk hr) HH.out (fun g hg=>⟨by omega,by omega⟩) (fun k hk=>hB0.block k (by omega)) b10 b20 (by omega))
  (fun h k=>h.trans k) (fun W lq o o' hN ho _ _=>Kx.put W lq o o' hN ho) (Below.refl _ _) (fun _=>rfl)
  (fun pre W=>(∃ M:List It,MapIs thV thOk W mb M/\(∀ s,tot M s=tot (pre.map (·.1)) s)/\M.length<=pre.length)/\Bk W (mb+1) #[.map (some mb)] 126/\Below tb w W/\W0.heap.size<=W.heap.size)
  (fun _ _ _=>False)
  (fun pre A B row hs hg hr=>by
   obtain ⟨⟨M,h1,h2,h3⟩,h4,h5,h6⟩:=hs;refine ⟨⟨M,h1.grown hg (fun r e=>by have:=(hr r e).1;omega),h2,h3⟩,Bk.grew h4 hg (fun r e=>by have:=(hr r e).1;omega),Below.grew h5 hg (by have:=h4.lt;omega) (fun r e=>by have:=(hr r e).1;omega),Nat.le_trans h6 hg.size⟩)
  (fun _ _ _ _ _ hs _ _=>hs)
  ⟨⟨[],m0,fun s=>rfl,by simp⟩,bc0,hB0,Nat.le_refl _⟩
  (fun z a' W=>∃ Bq,W0.heap.size<=Bq/\Bk W Bq #[.int .i64 z.1.1.1, .int .i64 z.1.1.2] 131/\a'={ tmps:=#[.slice a l.length cap,tv x y,undef, .pointer (some ⟨tb,0,none⟩), .slice none 0 0, .pointer (some ⟨mb+1,0,none⟩), .pointer (some ⟨Bq,0,none⟩), .int .i64 z.1.2, .slice a l.length cap, .bool true, .bool false, .bool false,tv x y, .bool true, .bool false, .bool false, .map (some mb), .slice a l.length cap,tv x y, .func (.func 176) #[] #[.pointer (some ⟨mb+1+1,0,none⟩), .pointer (some ⟨mb+1+1+1,0,none⟩)],thV z.1.1, .int .i64 z.1.2,undef,undef,undef,undef,undef,undef,undef,undef,undef],defers:=[] })
  (fun z a' _ A B row hs hg hr=>by
   obtain ⟨Bq,h1,h2,h3⟩:=hs;exact ⟨Bq,h1,Bk.grew h2 hg (fun r e=>by
    obtain ⟨_,o,h4,h5⟩:=hr r e;rintro rfl;unfold Bk at h2;rw [h2] at h4;cases h4;cases h5),h3⟩)
  ?assign ?body ?done ?stop
 case assign =>
  rintro lq pre z W K ⟨⟨M,h1,h2,h3⟩,h4,h5,h6⟩ hK
  gi_wp2
  refine hK _ _ ((KeepsOthers.alloc _ _).from _) ⟨by simp,fun k hk _=>Below.heap_alloc _ _ _ (by omega)⟩ ⟨⟨M,h1.keep (bAz (Below.refl _ _) _),h2,h3⟩,h4.alloc _,bAllocT h5 (by omega) _,by simp;omega⟩ ⟨W.heap.size,h6,Bk.new _ _ rfl,rfl⟩
 case body =>
  rintro lq pre z a' W hlq-⟨⟨M,h1,h2,h3⟩,h4,h5,h6⟩ ⟨Bq,hBq,hq,rfl⟩ hlt;obtain ⟨⟨⟨K,V⟩,D⟩,hth,hD1,hD2⟩:=z;have H2:=(show Hid _ from h2);clear h2;obtain ⟨st,o1,o2,M',e1,e2,e3,hM',ht',hl'⟩:=MapIs.enter (h1.move (w1:=W.drew) rfl) encT Tryz.underlying126 zeroI hth (tot M (K,V)+D)
  change (Instr.entryStore _ _ (.int .i64 (st:Int)) _).run _ _=_ at e3
  have e0:=MapIs.look (h1.move (w1:=W.drew) rfl) encT Tryz.underlying126 zeroI hth;have HN:Hid (∀ s,tot M' s=tot ((pre++[⟨((K,V),D),hth,hD1,hD2⟩]:List XI).map (·.1)) s):=fun s=>by
   rw [ht',List.map_append]
   show _=tot (pre.map (·.1)++[((K,V),D)]) s
   rw [tot_snoc]
   by_cases e:(K,V)=s
   ·rw [if_pos e,if_pos e,<-H2.out,e]
   ·rw [if_neg e,if_neg e,H2.out];omega
  have hsum : -4611686018427387904<=tot M (K,V)+D/\tot M (K,V)+D<=4611686018427387904:=by
   have h1:=tot_abs (pre.map (·.1)) (K,V);have h2:=xi_abs pre;rw [<- H2.out] at h1;omega
  clear ht';obtain ⟨hs1,hs2'⟩:=hsum;generalize hT:tot M (K,V)=T at *;clear hT;have iw:IntKind.i64.wrap (T+D)=T+D:=by rw [IntKind.wrap_i64];omega
  have c0:=h4.cell (i:=0) (v:= .map (some mb)) rfl;obtain ⟨q0,q1,_,_⟩:=hq.two;dsimp only at q0 q1;have hmix:Tryz.prog.follows .mixedOrders=true:=by kernel_rfl
  have FIN:Hid (KeepsFrom W0.heap.size W (setBlock W.drew mb o2)/\Kx W0.heap.size mb W (setBlock W.drew mb o2) /\
    ((∃ M:List It,MapIs thV thOk (setBlock W.drew mb o2) mb M/\(∀ s,tot M s=tot ((pre++[⟨((K,V),D),hth,hD1,hD2⟩]:List XI).map (·.1)) s)/\M.length<=(pre++[⟨((K,V),D),hth,hD1,hD2⟩]:List XI).length)/\Bk (setBlock W.drew mb o2) (mb+1) #[.map (some mb)] 126/\Below tb w (setBlock W.drew mb o2)/\W0.heap.size<=(setBlock W.drew mb o2).heap.size)):=by
   have hz:(setBlock W.drew mb o2).heap.size=W.heap.size:=size_setBlock W.drew mb o2;refine ⟨⟨by rw [hz];exact Nat.le_refl _,fun k o hB hk _=>?_⟩,⟨by rw [hz];exact Nat.le_refl _,fun k _ hm=>?_⟩,⟨M',hM',HN.out,by simp;omega⟩,?_,below_setBlock h5.drew (by omega),by rw [hz];exact h6⟩
   ·rw [setBlock_at (by omega)];exact hk
   ·rw [setBlock_at hm];rfl
   ·unfold Bk;rw [setBlock_at (by omega)];exact h4
  clear HN hM' h1 h4 hq
  gi_wp2
  gi_region_with_o (fail)
  all_goals gi_wp2
  all_goals exact FIN.out
 case done =>
  rintro D xs W hD hS ⟨⟨M,h1,h2,h3⟩,h4,h5,h6⟩ hK;have c0:=h4.cell (i:=0) (v:= .map (some mb)) rfl;have hlt:=(Array.getElem?_eq_some_iff.1 hK).1;have hxl:xs.length<=400:=by
   have h1:=congrArg List.length hS;simp at h1;omega
  have HE:Hid (sumL ltT M=sumL ltT (atL l x y)):=by
   show _=_
   refine sumL_congr ltT_ord fun s=>?_;rw [h2 s,hS]
  clear h2 hS
  gi_wp2
  refine ⟨trivial,?_⟩;refine CallsIn.mono (callsIn_wide.2 (itemsOf_any mb M W h1 (by omega))) ?_;rintro e W3 ⟨o3,rfl,own3,hb3⟩;have O3:Hid (OwnI W3 W.heap.size o3 (sumL ltT M)):=own3;have hK3:W3.heap[D]?=some (.deferred (some [])):=by rw [hb3.block D hlt];exact hK
  have hb5:Below tb w W3:=h5.trans (hb3.mono (by omega));clear own3
  gi_wp2
  refine ⟨by simp, .inl ⟨_,_,rfl,run_takeDeferred hK3,?_⟩⟩;refine ⟨_,results_tmp rfl _ _ _,o3,rfl,?_,?_⟩
  ·rw [HF.out,<-HE.out];refine oLz (B:=W.heap.size) ?_ (by omega);refine oAz O3.out fun q e=>?_;have:=oB O3.out q e;exact (grownBy_putObj' W3 D (.deferred none)).block q (oT O3.out q e) (fun e=>by cases e;omega)
  ·rw [htb];exact hb5.trans (belowK_b (w:=W0) (by omega) W3 D _ _ hD hK3 rfl rfl)
 case stop =>
  rintro D c pre W _ _ h _;exact h.elim
theorem implAt_any (v:Value) (l:List Rw) (x y:Int) (w:World) (h:Rs w v l) :
  Calls Tryz.prog 41 #[v,tv x y] w fun e w'=>∃ o:Value,e= .returned o/\OwnI w' w.heap.size o (itemsL l x y)/\Below w.heap.size w w':=by
 have bt0:Bk (w.alloc (.cells #[.int .i64 x, .int .i64 y] 32)) w.heap.size #[.int .i64 x, .int .i64 y] 32:=Bk.new _ _ rfl;have hb0:=bAz (Below.refl w.heap.size w) (.cells #[.int .i64 x, .int .i64 y] 32);have h0:=h.keep hb0;cases hk:rokB l
 ·have HF:Hid (itemsL l x y=[]):=items_no1 hk;go_enter Tryz.func41,Tryz.ntmps41;go_wp2_with fail;refine (iR hk h0).mono ?_;rintro e w1 ⟨rfl,hb1⟩;have hbw1:=bSz hb0 hb1;go_wp2_with fail;go_ret;refine ⟨_,rfl,?_,hbw1⟩;rw [HF.out];exact oN _ _ _ _ _
 cases hk':okB x y
 ·have HF:Hid (itemsL l x y=[]):=items_no2 hk';go_enter Tryz.func41,Tryz.ntmps41;go_wp2_with fail;refine (iR hk h0).mono ?_;rintro e w1 ⟨rfl,hb1⟩;have hbw1:=bSz hb0 hb1;obtain ⟨t0,t1,_,_⟩:=(bt0.keep hb1).two;go_wp2_with fail;refine (implTimeOk_eq hk' _).mono ?_;rintro e w2 ⟨rfl,hb2⟩;have hbw2:=bSz hbw1 hb2;go_wp2_with fail;go_ret;refine ⟨_,rfl,?_,hbw2⟩;rw [HF.out];exact oN _ _ _ _ _
 obtain ⟨a,cap,rfl,-,-,-,-⟩:=Rs.open h;exact callsIn_wide.1 (implAt_in a cap l x y w h hk hk')
end Go.Proofs.YtbdpcngcbnoioaaGreatDoor
