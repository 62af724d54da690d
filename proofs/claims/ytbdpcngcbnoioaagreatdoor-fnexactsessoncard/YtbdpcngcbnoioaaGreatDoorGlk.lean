import Derived.Test.YtbdpcngcbnoioaaGreatDoorGl1
import Derived.BigRegionIn
import Derived.Sort.CutIn
set_option maxRecDepth 100000
set_option maxHeartbeats 16000000
namespace Go.Proofs.YtbdpcngcbnoioaaGreatDoor
open Go.RowKit Go.Shelf
theorem appR_run {W:World} {base:Nat} {v:Value} {l:List Rw} (ty:TypeId) (hown:OwnR W base v l) (g0:Nat) (K V A B D:Int) (hc:Bk W g0 #[.int .i64 K, .int .i64 V, .int .i64 A, .int .i64 B, .int .i64 D] 55) (hl:l.length<=2000000) (hbase:base<=W.heap.size) :
  ∃ g cap w',(Builtin.append_ #[28,28] ty #[v, .slice (some ⟨g0,0,none⟩) 1 1]).run Tryz.prog W= .ok (.slice (some ⟨g,0,none⟩) (l.length+1) cap) w'/\OwnR w' base (.slice (some ⟨g,0,none⟩) (l.length+1) cap) (l++[(((K,V),(A,B)),D)]) /\
   W.grownBy w' v.ownBlock/\(v.ownBlock=some g\/g=W.heap.size)/\g<w'.heap.size:=by
 obtain ⟨i0,hi,hz0,hz1,hz2⟩:=info_parts infoR;obtain ⟨g,cap,w',h1,h2,h3,h4,h5⟩:=run_append_lies (P:=Tryz.prog) (w:=W) 28 ty base 55 i0 _ 5 40 Tryz.underlying28 hi hz0 hz1 hz2 rfl (by decide) v l.length (l.flatMap rowC) hown ⟨g0,0,none⟩ 1 1 (rowC (((K,V),(A,B)),D)) rfl (newsL hc) (onesR _) (by omega) (by unfold maxLen;omega) (by omega) hbase W.heap.size rfl;refine ⟨g,cap,w',h1,?_,h3,h4,h5⟩
 show w'.ownsRow _ _ _ _ _ _
 rw [List.flatMap_append];simpa using h2
theorem wpIn_append0 {n:Nat} {P:Program} {o:Oper} {a:Act} {W W':World} {K:Act->World->Prop} {Q:Exit->Act->World->Prop} (s x:Operand) (t:TypeId) (ho:o.op= .call { callee:= .builtin .append,args:=#[s,x],argTypes:=#[t,t] })
  {v xx u:Value} (hs:a.eval s=v) (hx:a.eval x=xx) (hr:(Builtin.append_ #[t,t] o.type #[v,xx]).run P W= .ok u W') (h:K (a.put o.dst u) W'):o.wpIn Fence.wide n P a W K Q:=by
 refine ⟨fun f _=>trivial,?_⟩;rw [Oper.semAt_eq _ _ _ (fun c e=>by rw [ho] at e;cases e)];unfold execOp;simp [ho,resolve,invoke,builtin,hs,hx,hr,Result.andThen];exact h
theorem wpListIn_app0 {n:Nat} {P:Program} {ops:Array Oper} {rest:List Oper} {o:Oper} {a:Act} {W W':World} {Q:Exit->Act->World->Prop} (hgd:o.guard=none) (s x:Operand) (t:TypeId) (ho:o.op= .call { callee:= .builtin .append,args:=#[s,x],argTypes:=#[t,t] })
  {v xx u:Value} (hs:a.eval s=v) (hx:a.eval x=xx) (hr:(Builtin.append_ #[t,t] o.type #[v,xx]).run P W= .ok u W') (h:wpListIn Fence.wide n P ops Q rest (a.put o.dst u) W'):wpListIn Fence.wide n P ops Q (o::rest) a W :=
 wpListIn_plain hgd fun _ hK=>wpIn_append0 s x t ho hs hx hr (hK _ _ h)
def stamp (t:Int×Int) (m:List It):List Rw:=m.map fun r=>((r.1,t),r.2)
theorem negAt_tot (l:List Rw) (x y:Int) (s:Int×Int):tot (negI (atL l x y)) s =-tot (atL l x y) s:=by
 unfold negI;exact tot_neg _ s
theorem stamp_snoc {m:List It} {k:Nat} {K V D:Int} {t:Int×Int} (h:m[k]?=some ((K,V),D)):stamp t (m.take (k+1))=stamp t (m.take k)++[(((K,V),t),D)]:=by
 unfold stamp;rw [tSz h,List.map_append];rfl
theorem stamp_len (t:Int×Int) (m:List It):(stamp t m).length=m.length:=by unfold stamp;rw [List.length_map]
theorem negI_snoc1 (m:List It) (r:It):negI (m++[r])=negI m++[(r.1,-r.2)]:=by unfold negI;rw [List.map_append];rfl
theorem negI_len (m:List It):(negI m).length=m.length:=by unfold negI;rw [List.length_map]
theorem absum_negI (m:List It):absum (negI m)=absum m:=by
 unfold negI
 induction m with
 | nil=>rfl
 | cons r m ih=>simp only [List.map_cons,absum,ih];omega
open Go.ChangeMaps (setBlock)
attribute [local go_sem] Oper.semAt_some
def lackL (C:List Rw) (X Y:Int) (I:List It):List It:=sumL ltT (I++negI (atL C X Y))
theorem lacking_in (a:Option Addr) (cap:Nat) (C:List Rw) (X Y:Int) (u:Value) (I:List It) (w:World) (h:Rs w (.slice a C.length cap) C) (hC:∀ r∈C,rwOkB r=true) (hCl:C.length<=110000) (hI:Is w u I) (hIl:I.length<=400) (hIa:absum I<=1000000) (hIk:∀ r∈I,itK r.1) :
  CallsIn Fence.wide 4 Tryz.prog 246 #[.slice a C.length cap,tv X Y,u] w fun e w'=>∃ o:Value,e= .returned o/\OwnR w' w.heap.size o (stamp (X,Y) (lackL C X Y I))/\Below w.heap.size w w':=by
 have HH:Hid (Rs w (.slice a C.length cap) C):=h;have HIA:Hid (absum I<=1000000):=hIa;have HIK:Hid (∀ r∈I,itK r.1):=hIk;obtain ⟨aI,cI,rfl,hcI,hmI,hnI,hcellI⟩:=Is.open hI;unfold maxLen at hmI;have HCI:=(show Hid _ from hcellI);have hal:=atL_len C X Y;have hmm:=@run_makeMap Tryz.prog;clear h hI hIa hIk hcellI;have m0:MapIs thV thOk (((w.alloc (.cells #[.int .i64 X, .int .i64 Y] 32)).alloc (.map #[] 0)).alloc (.cells #[.map (some (w.heap.size+1))] 126)) (w.heap.size+1) []:=(MapIs.new (w.alloc _) (by simp)).keep (bAz (Below.refl _ _) _);have bc0:Bk (((w.alloc (.cells #[.int .i64 X, .int .i64 Y] 32)).alloc (.map #[] 0)).alloc (.cells #[.map (some (w.heap.size+1))] 126)) (w.heap.size+1+1) #[.map (some (w.heap.size+1))] 126:=Bk.new (w:=(w.alloc _).alloc _) _ _ (by simp);have bt0:Bk (((w.alloc (.cells #[.int .i64 X, .int .i64 Y] 32)).alloc (.map #[] 0)).alloc (.cells #[.map (some (w.heap.size+1))] 126)) w.heap.size #[.int .i64 X, .int .i64 Y] 32:=((Bk.new (w:=w) _ _ rfl).alloc _).alloc _;have hb0:Below w.heap.size w (((w.alloc (.cells #[.int .i64 X, .int .i64 Y] 32)).alloc (.map #[] 0)).alloc (.cells #[.map (some (w.heap.size+1))] 126)):=bAz (bAz (bAz (Below.refl _ _) _) _) _;refine callsIn_of_wp_marks Tryz.func246 rfl trivial ?_ rfl;simp only [Tryz.ntmps246,List.size_toArray,List.length_cons,List.length_nil,Nat.reduceAdd,Nat.reduceSub,Array.replicate_succ,Array.replicate_zero,List.push_toArray,List.append_toArray,List.nil_append,List.cons_append]
 gi_wp2
 clear hmm
 gi_loopw [18] (fun i wr=>∃ (k:Nat) (M:List It),k<=I.length/\i= .int .i64 k/\MapIs thV thOk wr (w.heap.size+1) M/\(∀ s,tot M s=tot (I.take k) s)/\M.length<=k/\Bk wr (w.heap.size+1+1) #[.map (some (w.heap.size+1))] 126/\Bk wr w.heap.size #[.int .i64 X, .int .i64 Y] 32/\Below w.heap.size w wr) (fun i _=>I.length-(intOf i).toNat)
 case atStart=>exact ⟨0,[],by omega,rfl,m0,fun s=>rfl,by simp,bc0,bt0,hb0⟩
 case round =>
  clear m0 bc0 bt0 hb0;obtain ⟨k,M,hkl,rfl,hmap,htot,hML,bc,bt,hb⟩:=hrel;have HT:=(show Hid (∀ s,tot M s=tot (I.take k) s) from htot);clear htot
  by_cases hlt:k<I.length
  ·obtain ⟨g,off,K,V,D,rfl,hg,hr,c0,c1,c2⟩:=HCI.out k hlt;have d0:=cB hb c0;have d1:=cB hb c1;have d2:=cB hb c2;have HR:=(show Hid (I[k]?=some ((K,V),D)) from hr);have hok:thOk (K,V):=it_th (HIK.out _ (List.mem_of_getElem? hr));have ik:((k:Int)<(I.length:Int)):=by omega
   have bx:=Bk.new (w:=wr) #[.int .i64 K, .int .i64 V, .int .i64 D] 98 rfl;have hbx:Below wr.heap.size wr (wr.alloc (.cells #[.int .i64 K, .int .i64 V, .int .i64 D] 98)):=bAz (Below.refl _ _) _;have hmap':=hmap.keep hbx;have bc':=bc.keep hbx;have bt':=bt.keep hbx;have hb':=bSz hb hbx;have cM:=bc'.cell (i:=0) (v:= .map (some (w.heap.size+1))) rfl;have hmt:=hmap.lt;clear c0 c1 c2 hr
   gi_upto_region 5 with fail
   clear d0 d1 d2 hmap hb hbx bc bt;generalize wr.heap.size=tb at *;generalize (wr.alloc (.cells #[.int .i64 K, .int .i64 V, .int .i64 D] 98))=wt at *;obtain ⟨st,o1,o2,M',e1,e2,e3,hM',ht',hl2⟩:=MapIs.enter (hmap'.move (w1:=wt.drew) rfl) encT Tryz.underlying126 zeroI hok (tot M (K,V)+D)
   change (Instr.entryStore _ _ (.int .i64 (st:Int)) _).run _ _=_ at e3
   have e0:=MapIs.look (hmap'.move (w1:=wt.drew) rfl) encT Tryz.underlying126 zeroI hok;obtain ⟨y0,y1,y2⟩:=bx.three;have hsum : -4611686018427387904<=tot M (K,V)+D/\tot M (K,V)+D<=4611686018427387904:=by
    have h1:=tot_abs (I.take (k+1)) (K,V);rw [tSz HR.out,tot_snoc,if_pos rfl,<-HT.out] at h1;have h2:=absum_take I (k+1);rw [tSz HR.out] at h2;have:=HIA.out;omega
   have HN:Hid (∀ s,tot M' s=tot (I.take (k+1)) s):=fun s=>by
    rw [ht',tSz HR.out,tot_snoc]
    by_cases e:(K,V)=s
    ·rw [if_pos e,if_pos e,<-HT.out,e]
    ·rw [if_neg e,if_neg e,HT.out];omega
   clear ht';obtain ⟨hs1,hs2'⟩:=hsum;generalize hTT:tot M (K,V)=T at *;clear hTT;have iw:IntKind.i64.wrap (T+D)=T+D:=by rw [IntKind.wrap_i64];omega
   have hb2:Below w.heap.size w (setBlock wt.drew (w.heap.size+1) o2):=below_setBlock hb'.drew (by omega);have bc2:Bk (setBlock wt.drew (w.heap.size+1) o2) (w.heap.size+1+1) #[.map (some (w.heap.size+1))] 126:=by unfold Bk;rw [setBlock_at (by omega)];exact bc'
   have bt2:Bk (setBlock wt.drew (w.heap.size+1) o2) w.heap.size #[.int .i64 X, .int .i64 Y] 32:=by unfold Bk;rw [setBlock_at (by omega)];exact bt'
   have FIN:=(show Hid (MapIs thV thOk (setBlock wt.drew (w.heap.size+1) o2) (w.heap.size+1) M'/\M'.length<=k+1/\Bk (setBlock wt.drew (w.heap.size+1) o2) (w.heap.size+1+1) #[.map (some (w.heap.size+1))] 126/\Bk (setBlock wt.drew (w.heap.size+1) o2) w.heap.size #[.int .i64 X, .int .i64 Y] 32/\Below w.heap.size w (setBlock wt.drew (w.heap.size+1) o2)) from ⟨hM',by omega,bc2,bt2,hb2⟩);clear hM' hmap' hl2 bx bc' bt' hb' hb2 bc2 bt2;have hmix:Tryz.prog.follows .mixedOrders=true:=by kernel_rfl
   gi_region
   all_goals
    clear e0 e1 e2 e3;generalize setBlock wt.drew (w.heap.size+1) o2=w2 at *
    gi_wp2
    exact ⟨⟨k+1,M',by omega,by go_num,FIN.out.1,HN.out,FIN.out.2.1,FIN.out.2.2.1,FIN.out.2.2.2.1,FIN.out.2.2.2.2⟩,by simp [intOf];omega⟩
  ·obtain rfl:k=I.length:=by omega
   rw [List.take_length] at HT;obtain ⟨x0,x1,_,_⟩:=bt.two;have hbs:=hb.size;have hcl:=bc.lt;have ik:¬ ((I.length:Int)<(I.length:Int)):=by omega
   gi_wp2
   refine ⟨trivial,?_⟩;refine CallsIn.mono (callsIn_wide.2 (there_any _ _ _ _ _ _)) ?_;rintro e W0 ⟨rfl,hW0⟩;have hBW:Below wr.heap.size wr W0:=by rw [hW0];exact bAz (bAz (Below.refl _ _) _) _
   have hsz:W0.heap.size=wr.heap.size+1+1:=by rw [hW0];simp
   have b10:Bk W0 wr.heap.size #[.slice a C.length cap] 28:=by rw [hW0];exact (Bk.new _ _ rfl).alloc _
   have b20:Bk W0 (wr.heap.size+1) #[.int .i64 X, .int .i64 Y] 32:=by rw [hW0];exact Bk.new (w:=wr.alloc _) _ _ (by simp)
   have m1:=hmap.keep hBW;have bc1:=bc.keep hBW;have bt1:=bt.keep hBW;have hB0:=bSz hb hBW;clear hW0 x0 x1 hmap bc bt hb hBW
   gi_wp2
   refine wpIn_rangeFunc_ownH (n:=4) (w0:=W0) rfl (by omega) (gf:=176) (lb:=#[.pointer (some ⟨wr.heap.size,0,none⟩), .pointer (some ⟨wr.heap.size+1,0,none⟩)]) rfl trivial (enters_of Tryz.func176 (by kernel_rfl) rfl)
    (there_stops wr.heap.size (wr.heap.size+1) (w.heap.size+1) a cap C X Y w W0 (by omega) hC HH.out (fun g hg=>⟨by omega,by omega⟩) (fun k hk=>hB0.block k (by omega)) b10 b20 (by omega))
    (fun h k=>h.trans k) (fun W lq o o' hN ho _ _=>Kx.put W lq o o' hN ho) (Below.refl _ _) (fun _=>rfl)
    (fun pre W=>(∃ M2:List It,MapIs thV thOk W (w.heap.size+1) M2/\(∀ s,tot M2 s=tot I s-tot (pre.map (·.1)) s)/\M2.length<=I.length+pre.length)/\Bk W (w.heap.size+1+1) #[.map (some (w.heap.size+1))] 126/\Bk W w.heap.size #[.int .i64 X, .int .i64 Y] 32/\Below w.heap.size w W/\W0.heap.size<=W.heap.size)
    (fun _ _ _=>False)
    (fun pre A B row hs hg hr=>by
     obtain ⟨⟨M2,h1,h2,h3⟩,h4,h7,h5,h6⟩:=hs;exact ⟨⟨M2,h1.grown hg (fun r e=>by have:=(hr r e).1;omega),h2,h3⟩,Bk.grew h4 hg (fun r e=>by have:=(hr r e).1;omega),Bk.grew h7 hg (fun r e=>by have:=(hr r e).1;omega),Below.grew h5 hg (by have:=h4.lt;omega) (fun r e=>by have:=(hr r e).1;omega),Nat.le_trans h6 hg.size⟩)
    (fun _ _ _ _ _ hs _ _=>hs)
    ⟨⟨M,m1,fun s=>by rw [HT.out];simp [tot],by simp;omega⟩,bc1,bt1,hB0,Nat.le_refl _⟩
    (fun z a' W=>∃ Bq,W0.heap.size<=Bq/\Bk W Bq #[.int .i64 z.1.1.1, .int .i64 z.1.1.2] 131/\a'={ tmps:=#[.slice a C.length cap,tv X Y, .slice aI I.length cI,undef, .pointer (some ⟨w.heap.size,0,none⟩),undef, .slice none 0 0, .pointer (some ⟨w.heap.size+1+1,0,none⟩),undef,u9, .pointer (some ⟨Bq,0,none⟩), .int .i64 z.1.2,undef,undef,undef, .map (some (w.heap.size+1)), .slice aI I.length cI, .int .i64 (I.length:Nat), .int .i64 (I.length:Nat), .bool false,u20,u21,u22,u23,u24,u25,u26,u27,u28,u29,u30,u31,u32,u33,u34, .slice a C.length cap,tv X Y, .func (.func 176) #[] #[.pointer (some ⟨wr.heap.size,0,none⟩), .pointer (some ⟨wr.heap.size+1,0,none⟩)],thV z.1.1, .int .i64 z.1.2,undef,undef,undef,undef,undef,undef,undef,undef,undef,undef,undef,undef,undef,undef,undef,undef,undef,undef,undef,undef,undef,undef,undef,undef,undef,undef,undef],defers:=[] })
    (fun z a' _ A B row hs hg hr=>by
     obtain ⟨Bq,h1,h2,h3⟩:=hs;exact ⟨Bq,h1,Bk.grew h2 hg (fun r e=>by
      obtain ⟨_,o,h4,h5⟩:=hr r e;rintro rfl;unfold Bk at h2;rw [h2] at h4;cases h4;cases h5),h3⟩)
    ?assign ?body ?done ?stop
   case assign =>
    rintro lq pre z W K ⟨⟨M2,h1,h2,h3⟩,h4,h7,h5,h6⟩ hK
    gi_wp2
    refine hK _ _ ((KeepsOthers.alloc _ _).from _) ⟨by simp,fun k hk _=>Below.heap_alloc _ _ _ (by omega)⟩ ⟨⟨M2,h1.keep (bAz (Below.refl _ _) _),h2,h3⟩,h4.alloc _,h7.alloc _,bAllocT h5 (by omega) _,by simp;omega⟩ ⟨W.heap.size,h6,Bk.new _ _ rfl,rfl⟩
   case body =>
    rintro lq pre z a' W hlq-⟨⟨M2,h1,h2,h3⟩,h4,h7,h5,h6⟩ ⟨Bq,hBq,hq,rfl⟩ hltp;obtain ⟨⟨⟨K,V⟩,D⟩,hth,hD1,hD2⟩:=z;have H2:=(show Hid _ from h2);clear h2;obtain ⟨st,o1,o2,M',e1,e2,e3,hM',ht',hl'⟩:=MapIs.enter (h1.move (w1:=W.drew) rfl) encT Tryz.underlying126 zeroI hth (tot M2 (K,V)-D)
    change (Instr.entryStore _ _ (.int .i64 (st:Int)) _).run _ _=_ at e3
    have e0:=MapIs.look (h1.move (w1:=W.drew) rfl) encT Tryz.underlying126 zeroI hth;have HN:Hid (∀ s,tot M' s=tot I s-tot ((pre++[⟨((K,V),D),hth,hD1,hD2⟩]:List XI).map (·.1)) s):=fun s=>by
     rw [ht',List.map_append]
     show _=tot I s-tot (pre.map (·.1)++[((K,V),D)]) s
     rw [tot_snoc]
     by_cases e:(K,V)=s
     ·rw [if_pos e,if_pos e,e,H2.out];omega
     ·rw [if_neg e,if_neg e,H2.out];omega
    have hsum : -4611686018427387904<=tot M2 (K,V)-D/\tot M2 (K,V)-D<=4611686018427387904:=by
     have h1:=tot_abs (pre.map (·.1)) (K,V);have h2:=xi_abs pre;have h3:=tot_abs I (K,V);have h4:=HIA.out;have h5:=H2.out (K,V);omega
    clear ht';obtain ⟨hs1,hs2'⟩:=hsum;generalize hT:tot M2 (K,V)=T at *;clear hT;have iw:IntKind.i64.wrap (T-D)=T-D:=by rw [IntKind.wrap_i64];omega
    have c0:=h4.cell (i:=0) (v:= .map (some (w.heap.size+1))) rfl;obtain ⟨q0,q1,_,_⟩:=hq.two;dsimp only at q0 q1;have hmix:Tryz.prog.follows .mixedOrders=true:=by kernel_rfl
    have FIN:Hid (KeepsFrom W0.heap.size W (setBlock W.drew (w.heap.size+1) o2)/\Kx W0.heap.size (w.heap.size+1) W (setBlock W.drew (w.heap.size+1) o2) /\
      ((∃ M2:List It,MapIs thV thOk (setBlock W.drew (w.heap.size+1) o2) (w.heap.size+1) M2/\(∀ s,tot M2 s=tot I s-tot ((pre++[⟨((K,V),D),hth,hD1,hD2⟩]:List XI).map (·.1)) s)/\M2.length<=I.length+(pre++[⟨((K,V),D),hth,hD1,hD2⟩]:List XI).length)/\Bk (setBlock W.drew (w.heap.size+1) o2) (w.heap.size+1+1) #[.map (some (w.heap.size+1))] 126/\Bk (setBlock W.drew (w.heap.size+1) o2) w.heap.size #[.int .i64 X, .int .i64 Y] 32/\Below w.heap.size w (setBlock W.drew (w.heap.size+1) o2)/\W0.heap.size<=(setBlock W.drew (w.heap.size+1) o2).heap.size)):=by
     have hz:(setBlock W.drew (w.heap.size+1) o2).heap.size=W.heap.size:=size_setBlock W.drew (w.heap.size+1) o2;refine ⟨⟨by rw [hz];exact Nat.le_refl _,fun k o hB hk _=>?_⟩,⟨by rw [hz];exact Nat.le_refl _,fun k _ hm=>?_⟩,⟨M',hM',HN.out,by simp;omega⟩,?_,?_,below_setBlock h5.drew (by omega),by rw [hz];exact h6⟩
     ·rw [setBlock_at (by omega)];exact hk
     ·rw [setBlock_at hm];rfl
     ·unfold Bk;rw [setBlock_at (by omega)];exact h4
     ·unfold Bk;rw [setBlock_at (by omega)];exact h7
    clear HN hM' h1 h4 h7 hq
    gi_wp2
    gi_region_with_o (fail)
    all_goals gi_wp2
    all_goals exact FIN.out
   case stop =>
    rintro D c pre W _ _ h _;exact h.elim
   case done =>
    rintro D xs W hD hS ⟨⟨M2,h1,h2,h3⟩,h4,h7,h5,h6⟩ hK;have c0:=h4.cell (i:=0) (v:= .map (some (w.heap.size+1))) rfl;have hlt2:=(Array.getElem?_eq_some_iff.1 hK).1;have hxl:xs.length<=110000:=by
     have h1:=congrArg List.length hS;simp at h1;omega
    have HE:Hid (sumL ltT M2=lackL C X Y I):=by
     show _=_
     refine sumL_congr ltT_ord fun s=>?_;rw [h2 s,hS,tot_append,negAt_tot];omega
    have hll:(lackL C X Y I).length<=120000:=by
     have:=sumL_len ltT (I++negI (atL C X Y));unfold lackL;rw [List.length_append,negI_len] at this;omega
    clear h2 hS h4
    gi_wp2
    refine ⟨trivial,?_⟩;refine CallsIn.mono (callsIn_wide.2 (itemsOf_any (w.heap.size+1) M2 W h1 (by omega))) ?_;rintro e W3 ⟨o3,rfl,own3,hb3⟩;rw [HE.out] at own3;have hK3:W3.heap[D]?=some (.deferred (some [])):=by rw [hb3.block D hlt2];exact hK
    have hb5:Below w.heap.size w W3:=h5.trans (hb3.mono (by omega));have I3:=OwnI.is own3 (by omega);obtain ⟨a3,c3,rfl,hc3,hm3,hn3,hcell3⟩:=Is.open I3;unfold maxLen at hm3;have HC3:=(show Hid _ from hcell3);have bt3:=h7.keep hb3;have hs3:=hb3.size;have hsz3:W0.heap.size<=W3.heap.size:=Nat.le_trans h6 hb3.size;clear own3 I3 hcell3 h1 h7 h5 h6 hb3 hK hlt2 c0
    gi_wp2
    gi_loopw [12,50] (fun o i wq=>∃ k:Nat,k<=(lackL C X Y I).length/\i= .int .i64 k/\OwnR wq W3.heap.size o (stamp (X,Y) ((lackL C X Y I).take k))/\Below W3.heap.size W3 wq) (fun _ i _=>(lackL C X Y I).length-(intOf i).toNat)
    case atStart=>exact ⟨0,by omega,rfl,oN _ _ _ _ _,Below.refl _ _⟩
    case round =>
     obtain ⟨k,hkD,rfl,hown,hb⟩:=hrel
     by_cases hlk:k<(lackL C X Y I).length
     ·obtain ⟨g,off,K,V,D',rfl,hgl,hr,d0,d1,d2⟩:=HC3.out k hlk;have ik:((k:Int)<((lackL C X Y I).length:Int)):=by omega
      have g0:=cB hb d0;have g1:=cB hb d1;have g2:=cB hb d2;have bI:=Bk.new (w:=wr) #[.int .i64 K, .int .i64 V, .int .i64 D'] 98 rfl;have hbA:Below wr.heap.size wr (wr.alloc (.cells #[.int .i64 K, .int .i64 V, .int .i64 D'] 98)):=bAz (Below.refl _ _) _;have hbB:Below wr.heap.size wr ((wr.alloc (.cells #[.int .i64 K, .int .i64 V, .int .i64 D'] 98)).alloc (.cells #[.int .i64 K, .int .i64 V, .int .i64 X, .int .i64 Y, .int .i64 D'] 55)):=bAz hbA _;have bR:Bk ((wr.alloc (.cells #[.int .i64 K, .int .i64 V, .int .i64 D'] 98)).alloc (.cells #[.int .i64 K, .int .i64 V, .int .i64 X, .int .i64 Y, .int .i64 D'] 55)) (wr.heap.size+1) #[.int .i64 K, .int .i64 V, .int .i64 X, .int .i64 Y, .int .i64 D'] 55:=Bk.new _ _ (by simp);obtain ⟨y0,y1,y2⟩:=bI.three;obtain ⟨x0,x1,_,_⟩:=((bt3.keep hb).keep hbA).two;have hbs:=hb.size;have own1:=oK hown hbB;have hln:(stamp (X,Y) ((lackL C X Y I).take k)).length<=2000000:=by rw [stamp_len,List.length_take];omega
      obtain ⟨gq,capq,W9,hrun,own9,hg9,-,-⟩:=appR_run 28 own1 (wr.heap.size+1) K V X Y D' bR hln (by have:=hbB.size;omega);have HO9:=(show Hid _ from own9);have HZ:=(show Hid _ from stamp_snoc (t:=(X,Y)) hr);have hb9:Below W3.heap.size W3 W9:=Below.grew (bSz hb hbB) hg9 (by have:=hbB.size;omega) (fun q e=>by have:=oB hown q e;omega);clear d0 d1 d2 hr bI hbA hbB bR hown own1 own9
      gi_wp2_with (gi_at_builtin;refine wpListIn_app0 rfl _ _ _ rfl rfl rfl hrun ?_)
      exact ⟨⟨k+1,by omega,by go_num,by rw [HZ.out];exact HO9.out,hb9⟩,by simp [intOf];omega⟩
     ·obtain rfl:k=(lackL C X Y I).length:=by omega
      rw [List.take_length] at hown;have O3:Hid (OwnR wr W3.heap.size u12 (stamp (X,Y) (lackL C X Y I))):=hown;have ik:¬ (((lackL C X Y I).length:Int)<((lackL C X Y I).length:Int)):=by omega
      have hK4:wr.heap[D]?=some (.deferred (some [])):=by rw [hb.block D (Array.getElem?_eq_some_iff.1 hK3).1];exact hK3
      have hD3:D<W3.heap.size:=(Array.getElem?_eq_some_iff.1 hK3).1;have hb6:Below w.heap.size w wr:=hb5.trans (hb.mono (by omega));clear hown
      gi_wp2
      refine ⟨by simp, .inl ⟨_,_,rfl,run_takeDeferred hK4,?_⟩⟩;refine ⟨_,results_tmp rfl _ _ _,u12,rfl,?_,?_⟩
      ·refine oLz (B:=W3.heap.size) ?_ (by omega);refine oAz O3.out fun q e=>?_;have:=oB O3.out q e;exact (grownBy_putObj' wr D (.deferred none)).block q (oT O3.out q e) (fun e=>by cases e;omega)
      ·exact hb6.trans (belowK_b (w:=W0) (by omega) wr D _ _ hD hK4 rfl rfl)
theorem lacking_any (v:Value) (C:List Rw) (X Y:Int) (u:Value) (I:List It) (w:World) (h:Rs w v C) (hC:∀ r∈C,rwOkB r=true) (hCl:C.length<=110000) (hI:Is w u I) (hIl:I.length<=400) (hIa:absum I<=1000000) (hIk:∀ r∈I,itK r.1) :
  Calls Tryz.prog 246 #[v,tv X Y,u] w fun e w'=>∃ o:Value,e= .returned o/\OwnR w' w.heap.size o (stamp (X,Y) (lackL C X Y I))/\Below w.heap.size w w':=by
 obtain ⟨a,cap,rfl,-,-,-,-⟩:=Rs.open h;exact callsIn_wide.1 (lacking_in a cap C X Y u I w h hC hCl hI hIl hIa hIk)
section
variable {ops:Array Oper} {o:Oper} {a:Act} {Kk:Act->World->Prop} {Q:Exit->Act->World->Prop} {E:Prop}
theorem stepR2 (w:World) (hgd:o.guard=none) (s x:Operand) (ho:o.op= .call { callee:= .builtin .append,args:=#[s,x],argTypes:=#[28,28] })
  (base:Nat) (v:Value) (l:List Rw) (hs:a.eval s=v) (hown:OwnR w base v l) (g0:Nat) (K V A B D:Int) (hx:a.eval x= .slice (some ⟨g0,0,none⟩) 1 1)
  (hc:Bk w g0 #[.int .i64 K, .int .i64 V, .int .i64 A, .int .i64 B, .int .i64 D] 55) (hl:l.length<=2000000) (hbase:base<=w.heap.size)
  (h:∀ g cap w',OwnR w' base (.slice (some ⟨g,0,none⟩) (l.length+1) cap) (l++[(((K,V),(A,B)),D)])->w.grownBy w' v.ownBlock->(v.ownBlock=some g\/g=w.heap.size)->g<w'.heap.size->Kk (a.put o.dst (.slice (some ⟨g,0,none⟩) (l.length+1) cap)) w') :
  if Region.wanted o (yielded ops a.tmps)=true then Oper.wp Tryz.prog o a w Kk Q else E:=by
 obtain ⟨i0,hi,hz0,hz1,hz2⟩:=info_parts infoR;refine step_append_lies w hgd s x 28 ho base 55 i0 _ 5 40 Tryz.underlying28 hi hz0 hz1 hz2 rfl (by decide) v l.length (l.flatMap rowC) hs hown ⟨g0,0,none⟩ 1 1 (rowC (((K,V),(A,B)),D)) hx rfl (newsL hc) (onesR _) (by omega) (by unfold maxLen;omega) (by omega) hbase w.heap.size rfl ?_;intro g cap w' h1 h2 h3 h4;refine h g cap w' ?_ h2 h3 h4
 show w'.ownsRow _ _ _ _ _ _
 rw [List.flatMap_append];simpa using h1
end
theorem grown_of {A B:World} (h:Below A.heap.size A B) (r:Option Nat):A.grownBy B r:=⟨h.os,h.tape,h.output,h.size,fun k hk _=>h.block k hk⟩
theorem ownR_cells {w:World} {B:Nat} {v:Value} {l:List Rw} (h:OwnR w B v l) {q:Nat} (e:v.ownBlock=some q):∃ c:Array Value,Bk w q c 55:=by
 rcases ownK_open h rowC_len with ⟨rfl,_⟩|⟨g,cap,c,rfl,_,hb,_⟩
 ·cases e
 ·have:g=q:=by simpa [Value.ownBlock] using e
  subst this;exact ⟨c,hb⟩
theorem bK {W:World} {g q:Nat} {c d:Array Value} {t t':TypeId} (h:Bk W g c t) (h':Bk W q d t') (ht:t≠t'):g≠q:=fun e=>by
 subst e;unfold Bk at h h';rw [h] at h';cases h';exact ht rfl
abbrev oneR (v:Value):List Value:=[v]
theorem oneR_len (v:Value):(oneR v).length=1:=rfl
abbrev VsR (w:World) (v:Value) (vs:List Value):Prop:=SlK oneR 1 w v vs
abbrev OwnVR (w:World) (B:Nat) (v:Value) (vs:List Value):Prop:=OwnK oneR 1 28 w B v vs
theorem infoVR:(Tryz.prog.info? 28).map (fun i=>(i.zero,i.size,i.bytes))=some (some (.slice none 0 0),1,24):=by kernel_rfl
theorem OwnVR.vs {w:World} {B:Nat} {v:Value} {l:List Value} (h:OwnVR w B v l) (hl:l.length<=2097152):VsR w v l:=ownK_sl h oneR_len hl
def LyR (w:World) (v:Value) (K:List (List Rw)):Prop:=∃ vs:List Value,VsR w v vs/\vs.length=K.length/\∀ (i:Nat) (u:Value) (l:List Rw),vs[i]?=some u->K[i]?=some l->Rs w u l
theorem LyR.keep {w w1:World} {v:Value} {K:List (List Rw)} (h:LyR w v K) (hb:Below w.heap.size w w1):LyR w1 v K:=by
 obtain ⟨vs,h1,h2,h3⟩:=h;exact ⟨vs,h1.keep hb,h2,fun i u l e1 e2=>(h3 i u l e1 e2).keep hb⟩
theorem LyR.open {w:World} {v:Value} {K:List (List Rw)} (h:LyR w v K):∃ a cap,v= .slice a K.length cap/\K.length<=cap/\cap<=maxLen/\K.length<=2097152 /\
  ∀ (i:Nat) (l:List Rw),K[i]?=some l->∃ g off ad cp,a=some ⟨g,off,none⟩/\g<w.heap.size/\w.cell? ⟨g,off+i,none⟩=some (.slice ad l.length cp)/\Rs w (.slice ad l.length cp) l:=by
 obtain ⟨vs,⟨a,cap,h0,h1,h2,h3,h4⟩,hl,he⟩:=h;rw [hl] at h0 h1 h3;refine ⟨a,cap,h0,h1,h2,h3,fun i l hi=>?_⟩;have hi':i<vs.length:=by rw [hl];exact (List.getElem?_eq_some_iff.1 hi).1
 obtain ⟨g,off,ha,hg,c⟩:=h4 i vs[i] (List.getElem?_eq_getElem hi');have hr:=he i _ l (List.getElem?_eq_getElem hi') hi;obtain ⟨ad,cp,e,-⟩:=Rs.open hr;have hc:=c 0 (by omega);rw [Nat.mul_one,Nat.add_zero] at hc;exact ⟨g,off,ad,cp,ha,hg,by rw [<- e];exact hc,by rw [<- e];exact hr⟩
theorem LyR.sl {w:World} {v:Value} {K:List (List Rw)} (h:LyR w v K):∃ a cap,v= .slice a K.length cap:=by
 obtain ⟨a,cap,e,-⟩:=h.open;exact ⟨a,cap,e⟩
theorem LyR.one {w:World} {v:Value} {x:List Rw} (h:LyR w v [x]):∃ g off cap ad cp,v= .slice (some ⟨g,off,none⟩) 1 cap/\g<w.heap.size/\w.cell? ⟨g,off,none⟩=some (.slice ad x.length cp)/\Rs w (.slice ad x.length cp) x/\1<=cap/\cap<=maxLen:=by
 obtain ⟨a,cap,rfl,h1,h2,h3,hc⟩:=h.open;obtain ⟨g,off,ad,cp,rfl,hg,c0,R0⟩:=hc 0 x rfl;exact ⟨g,off,cap,ad,cp,rfl,hg,by simpa using c0,R0,h1,h2⟩
theorem LyR.two {w:World} {v:Value} {x y:List Rw} (h:LyR w v [x,y]):∃ g off cap ad cp ad' cp',v= .slice (some ⟨g,off,none⟩) 2 cap/\g<w.heap.size/\w.cell? ⟨g,off,none⟩=some (.slice ad x.length cp)/\w.cell? ⟨g,off+1,none⟩=some (.slice ad' y.length cp')/\Rs w (.slice ad x.length cp) x/\Rs w (.slice ad' y.length cp') y/\2<=cap/\cap<=maxLen:=by
 obtain ⟨a,cap,rfl,h1,h2,h3,hc⟩:=h.open;obtain ⟨g,off,ad,cp,rfl,hg,c0,R0⟩:=hc 0 x rfl;obtain ⟨g',off',ad',cp',e,hg',c1,R1⟩:=hc 1 y rfl;cases e;exact ⟨g,off,cap,ad,cp,ad',cp',rfl,hg,by simpa using c0,c1,R0,R1,h1,h2⟩
def EoR (w:World) (B:Nat) (vs:List Value) (K:List (List Rw)):Prop:=vs.length=K.length/\(∀ (i:Nat) (u:Value) (l:List Rw),vs[i]?=some u->K[i]?=some l->OwnR w B u l)/\∀ l∈K,l.length<=1000000
theorem EoR.nil (w:World) (B:Nat):EoR w B [] []:=⟨rfl,fun i u l h=>by simp at h,fun l h=>by simp at h⟩
theorem EoR.keep {w w1:World} {B:Nat} {vs:List Value} {K:List (List Rw)} (h:EoR w B vs K) (hb:Below w.heap.size w w1):EoR w1 B vs K:=⟨h.1,fun i u l h1 h2=>oK (h.2.1 i u l h1 h2) hb,h.2.2⟩
theorem EoR.less {w:World} {B B':Nat} {vs:List Value} {K:List (List Rw)} (h:EoR w B vs K) (hB:B'<=B):EoR w B' vs K:=⟨h.1,fun i u l h1 h2=>oLz (h.2.1 i u l h1 h2) hB,h.2.2⟩
theorem ownVR_cells {w:World} {B:Nat} {v:Value} {l:List Value} (h:OwnVR w B v l) {q:Nat} (e:v.ownBlock=some q):∃ c:Array Value,Bk w q c 28:=by
 rcases ownK_open h oneR_len with ⟨rfl,_⟩|⟨g,cap,c,rfl,_,hb,_⟩
 ·cases e
 ·have:g=q:=by simpa [Value.ownBlock] using e
  subst this;exact ⟨c,hb⟩
theorem EoR.grew {w w1:World} {B B':Nat} {vs vs':List Value} {K:List (List Rw)} {v:Value} (h:EoR w B vs K) (hv:OwnVR w B' v vs') (hg:w.grownBy w1 v.ownBlock):EoR w1 B vs K :=
 ⟨h.1,fun i u l h1 h2=>by
  have ho:=h.2.1 i u l h1 h2;refine oAz ho fun q e=>hg.block q (oT ho q e) fun e'=>?_;obtain ⟨c,hc⟩:=ownR_cells ho e;obtain ⟨d,hd⟩:=ownVR_cells hv e'.symm;exact bK hc hd (by decide) rfl,h.2.2⟩
theorem EoR.snoc {w:World} {B:Nat} {vs:List Value} {K:List (List Rw)} {u:Value} {l:List Rw} (h:EoR w B vs K) (hu:OwnR w B u l) (hl:l.length<=1000000):EoR w B (vs++[u]) (K++[l]):=by
 refine ⟨by rw [List.length_append,List.length_append,h.1];rfl,fun i u' l' h1 h2=>?_,fun l' hl'=>?_⟩
 ·by_cases hi:i<vs.length
  ·rw [List.getElem?_append_left hi] at h1;rw [List.getElem?_append_left (by rw [<- h.1];exact hi)] at h2;exact h.2.1 i u' l' h1 h2
  ·rw [List.getElem?_append_right (by omega)] at h1;rw [List.getElem?_append_right (by rw [<- h.1];omega)] at h2
   by_cases h0:i-vs.length=0
   ·rw [h0] at h1;rw [<- h.1,h0] at h2;cases h1;cases h2;exact hu
   ·rw [List.getElem?_eq_none (by simp;omega)] at h1;cases h1
 ·rcases List.mem_append.1 hl' with h1|h1
  ·exact h.2.2 l' h1
  ·simp at h1;subst h1;exact hl
theorem EoR.ly {w:World} {B B':Nat} {v:Value} {vs:List Value} {K:List (List Rw)} (h:EoR w B vs K) (hv:OwnVR w B' v vs) (hl:vs.length<=2097152):LyR w v K :=
 ⟨vs,OwnVR.vs hv hl,h.1,fun i u l h1 h2=>OwnR.rs (h.2.1 i u l h1 h2) (by have:=h.2.2 l (List.mem_of_getElem? h2);omega)⟩
section
variable {ops:Array Oper} {rest:List Oper} {o:Oper} {a:Act} {Q:Exit->Act->World->Prop}
theorem appVR (w:World) (hgd:o.guard=none) (s x:Operand) (ho:o.op= .call { callee:= .builtin .append,args:=#[s,x],argTypes:=#[26,26] })
  (base:Nat) (v:Value) (l:List Value) (hs:a.eval s=v) (hown:OwnVR w base v l) (g0:Nat) (ad:Option Addr) (n c:Nat) (hx:a.eval x= .slice (some ⟨g0,0,none⟩) 1 1)
  (hc:Bk w g0 #[.slice ad n c] 28) (hl:l.length<=2000000) (hbase:base<=w.heap.size)
  (h:∀ g cap w',OwnVR w' base (.slice (some ⟨g,0,none⟩) (l.length+1) cap) (l++[.slice ad n c])->w.grownBy w' v.ownBlock->g<w'.heap.size->wpList Tryz.prog ops Q rest (a.put o.dst (.slice (some ⟨g,0,none⟩) (l.length+1) cap)) w') :
  wpList Tryz.prog ops Q (o::rest) a w:=by
 obtain ⟨i0,hi,hz0,hz1,hz2⟩:=info_parts infoVR;refine wpList_append_lies w hgd s x 26 ho base 28 i0 _ 1 24 Tryz.underlying26 hi hz0 hz1 hz2 rfl (by decide) v l.length (l.flatMap oneR) hs hown ⟨g0,0,none⟩ 1 1 (oneR (.slice ad n c)) hx rfl (newsL hc) (fun u hu=>by simp at hu;subst hu;rfl) (by omega) (by unfold maxLen;omega) (by omega) hbase w.heap.size rfl ?_;intro g cap w' h1 h2 _ h4;refine h g cap w' ?_ h2 h4
 show w'.ownsRow _ _ _ _ _ _
 rw [List.flatMap_append];simpa using h1
end
section
variable {ops:Array Oper} {o:Oper} {a:Act} {Kk:Act->World->Prop} {Q:Exit->Act->World->Prop} {Ee:Prop}
theorem stepVR (w:World) (hgd:o.guard=none) (s x:Operand) (ho:o.op= .call { callee:= .builtin .append,args:=#[s,x],argTypes:=#[26,26] })
  (base:Nat) (v:Value) (l:List Value) (hs:a.eval s=v) (hown:OwnVR w base v l) (g0:Nat) (ad:Option Addr) (n c:Nat) (hx:a.eval x= .slice (some ⟨g0,0,none⟩) 1 1)
  (hc:Bk w g0 #[.slice ad n c] 28) (hl:l.length<=2000000) (hbase:base<=w.heap.size)
  (h:∀ g cap w',OwnVR w' base (.slice (some ⟨g,0,none⟩) (l.length+1) cap) (l++[.slice ad n c])->w.grownBy w' v.ownBlock->g<w'.heap.size->Kk (a.put o.dst (.slice (some ⟨g,0,none⟩) (l.length+1) cap)) w') :
  if Region.wanted o (yielded ops a.tmps)=true then Oper.wp Tryz.prog o a w Kk Q else Ee:=by
 obtain ⟨i0,hi,hz0,hz1,hz2⟩:=info_parts infoVR;refine step_append_lies w hgd s x 26 ho base 28 i0 _ 1 24 Tryz.underlying26 hi hz0 hz1 hz2 rfl (by decide) v l.length (l.flatMap oneR) hs hown ⟨g0,0,none⟩ 1 1 (oneR (.slice ad n c)) hx rfl (newsL hc) (fun u hu=>by simp at hu;subst hu;rfl) (by omega) (by unfold maxLen;omega) (by omega) hbase w.heap.size rfl ?_;intro g cap w' h1 h2 _ h4;refine h g cap w' ?_ h2 h4
 show w'.ownsRow _ _ _ _ _ _
 rw [List.flatMap_append];simpa using h1
end
theorem ownVR_empty (w:World) {B:Nat} (hB:B=w.heap.size):OwnVR (w.alloc (.cells #[] 28)) B (.slice (some ⟨B,0,none⟩) 0 0) []:=by
 subst hB;exact own_empty w _ 1
end Go.Proofs.YtbdpcngcbnoioaaGreatDoor
