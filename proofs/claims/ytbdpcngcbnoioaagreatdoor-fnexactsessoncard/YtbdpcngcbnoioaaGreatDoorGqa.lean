import Derived.Test.YtbdpcngcbnoioaaGreatDoorGpa
import Derived.Test.YtbdpcngcbnoioaaGreatDoorGs7
import Derived.Test.YtbdpcngcbnoioaaGreatDoorGpm
import Derived.Test.YtbdpcngcbnoioaaGreatDoorGlk
namespace Go.Proofs.YtbdpcngcbnoioaaGreatDoor
open Go.RowKit Go.Shelf
abbrev plC (p:Int×Int×Value):List Value:=[.int .i64 p.1, .int .i64 p.2.1,p.2.2]
theorem plC_len (p:Int×Int×Value):(plC p).length=3:=rfl
abbrev OwnPl (w:World) (B:Nat) (v:Value) (l:List (Int×Int×Value)):Prop:=OwnK plC 3 25 w B v l
theorem infoPl:(Tryz.prog.info? 25).map (fun i=>(i.zero,i.size,i.bytes))=some (some (.agg #[.int .i64 0, .int .i64 0, .slice none 0 0]),3,40):=by kernel_rfl
theorem onesPl (k n:Int) (a:Option Addr) (i c:Nat):∀ u∈plC (k,n, .slice a i c),u.oneCell'=true:=by
 intro u hu;simp at hu;rcases hu with rfl|rfl|rfl<;>rfl
theorem OwnPl.at {w:World} {B g m cap:Nat} {l:List (Int×Int×Value)} (h:OwnPl w B (.slice (some ⟨g,0,none⟩) m cap) l) {i:Nat} {k n:Int} {v:Value} (hi:l[i]?=some (k,n,v)) :
  B<=g/\w.cell? ⟨g,i*3,none⟩=some (.int .i64 k)/\w.cell? ⟨g,i*3+1,none⟩=some (.int .i64 n)/\w.cell? ⟨g,i*3+2,none⟩=some v:=by
 rcases ownK_open h plC_len with ⟨h1,_⟩|⟨g',cap',c,e,hB,hb,hsz,hlc,hm,hf⟩
 ·cases h1
 ·cases e;have hil:i<l.length:=(List.getElem?_eq_some_iff.1 hi).1;have f:=hf i (k,n,v) hil hi;exact ⟨hB,hb.cell (by simpa using f 0 (by omega)),hb.cell (by simpa using f 1 (by omega)),hb.cell (by simpa using f 2 (by omega))⟩
end Go.Proofs.YtbdpcngcbnoioaaGreatDoor
set_option maxRecDepth 100000
set_option maxHeartbeats 16000000
namespace Go.Proofs.YtbdpcngcbnoioaaGreatDoor
def covB (f:LI) (x y:Int):Bool:=fokB f&&anyB f x y
theorem cov_trans {f:LI} {x y X Y:Int} (h:covB f x y=true) (h':leB x y X Y=true):covB f X Y=true:=by
 unfold covB at h ⊢;rw [Bool.and_eq_true] at h ⊢;exact ⟨h.1,any_trans h.2 h'⟩
def covA (f g:LI):Bool:=g.all fun p=>covB f p.1 p.2
theorem covA_sub {f g:LI} (h:covA f g=true) {x y:Int} (hc:covB g x y=true):covB f x y=true:=by
 unfold covB at hc;rw [Bool.and_eq_true] at hc;obtain ⟨p,hp,hle⟩:=any_iff.1 hc.2;exact cov_trans (List.all_eq_true.1 h p hp) hle
def aheadL (f:LI) (l:List Rw):List Rw:=l.filter fun r=>!covB f r.1.2.1 r.1.2.2
theorem ahead_len (f:LI) (l:List Rw):(aheadL f l).length<=l.length:=List.length_filter_le _ _
theorem ahead_snoc {f:LI} {l:List Rw} {k:Nat} {r:Rw} (h:l[k]?=some r):aheadL f (l.take (k+1))=aheadL f (l.take k)++(if covB f r.1.2.1 r.1.2.2 then [] else [r]):=by
 unfold aheadL;rw [take_snoc0 h,List.filter_append];cases hc:covB f r.1.2.1 r.1.2.2<;>simp [hc]
where
 take_snoc0 {α:Type} {l:List α} {k:Nat} {x:α} (h:l[k]?=some x):l.take (k+1)=l.take k++[x]:=by
  rw [List.take_add_one,h];rfl
theorem filter_bok {l:List Rw} (h:bokB l=true) (p:Rw->Bool):bokB (l.filter p)=true:=by
 refine bok_of ?_ ?_ ?_
 ·exact rok_mk (Nat.le_trans (List.length_filter_le _ _) (rLz (bRz h))) fun r hr=>rok_at (bRz h) (List.mem_filter.1 hr).1
 ·exact fun r hr=>bok_nz h r (List.mem_filter.1 hr).1
 ·exact (bok_srt h).filter _
theorem tot_fil (p:Sp->Bool) (l:List Rw) (s:Sp):tot (l.filter fun r=>p r.1) s=if p s then tot l s else 0:=by
 induction l with
 | nil=>simp [tot]
 | cons r l ih =>
  rw [List.filter_cons]
  by_cases h:r.1=s
  ·subst h;cases hp:p r.1
   ·simp [hp,ih]
   ·simp [hp,tot,ih]
  ·cases hp:p r.1
   ·simp [tot,h,ih]
   ·simp [tot,h,ih]
theorem ahead_tot (f:LI) (l:List Rw) (s:Sp):tot (aheadL f l) s=if covB f s.2.1 s.2.2 then 0 else tot l s:=by
 have:=tot_fil (fun s=>!covB f s.2.1 s.2.2) l s;unfold aheadL;rw [this];cases covB f s.2.1 s.2.2<;>simp
structure SS where
 t:PT
 K:List (List Rw)
 f:LI
 d:List Rw
def allS (s:SS):Option (List Rw):=if fokB s.f then (flowR s.t s.K).bind fun r=>if aheadL s.f r=s.d then some r else none else none
theorem allS_some {s:SS} {r:List Rw}:allS s=some r↔fokB s.f=true/\flowR s.t s.K=some r/\aheadL s.f r=s.d:=by
 unfold allS;cases hf:fokB s.f
 ·simp
 ·simp only [if_true,true_and,Option.bind_eq_some_iff];constructor
  ·rintro ⟨q,h1,h2⟩
   split at h2
   ·cases h2;exact ⟨h1,by assumption⟩
   ·cases h2
  ·rintro ⟨h1,h2⟩;exact ⟨r,h1,by rw [if_pos h2]⟩
def moreL (f g:LI) (r:List Rw):List Rw:=r.filter fun q=>covB f q.1.2.1 q.1.2.2&&!covB g q.1.2.1 q.1.2.2
theorem ahead_bok {f:LI} {l:List Rw} (h:bokB l=true):bokB (aheadL f l)=true:=filter_bok h _
theorem more_bok {f g:LI} {l:List Rw} (h:bokB l=true):bokB (moreL f g l)=true:=filter_bok h _
theorem more_tot (f g:LI) (l:List Rw) (s:Sp):tot (moreL f g l) s=if covB f s.2.1 s.2.2&&!covB g s.2.1 s.2.2 then tot l s else 0:=tot_fil (fun s=>covB f s.2.1 s.2.2&&!covB g s.2.1 s.2.2) l s
theorem neg_totR (l:List Rw) (s:Sp):tot (negL l) s =-tot l s:=by unfold negL;exact tot_neg l s
theorem more_sum {f g:LI} {r:List Rw} (hr:bokB r=true) (h:covA f g=true):sumL ltS (aheadL g r++lessL (aheadL f r))=moreL f g r:=by
 rw [lessL_of (ahead_bok hr)];refine (sumL_uniq ltS_ord (bok_srt (more_bok hr)) (bok_nz (more_bok hr)) fun s=>?_).symm;rw [tot_append,neg_totR,ahead_tot,ahead_tot,more_tot];have hs:=covA_sub (x:=s.2.1) (y:=s.2.2) h;cases hg:covB g s.2.1 s.2.2
 ·cases hf:covB f s.2.1 s.2.2<;>simp<;>omega
 ·rw [hs hg];simp
theorem both_of {a b m:List Rw} (ha:bokB a=true) (hb:bokB b=true) (hm:bokB m=true) (h:sumL ltS (a++b)=m):bothB a b=m:=by
 unfold bothB;rw [bRz ha,bRz hb];simp only [Bool.and_self,if_true];rw [sumF_ok (by rw [h];exact bRz hm),h]
theorem more_both {f g:LI} {r:List Rw} (hr:bokB r=true) (h:covA f g=true):bothB (aheadL g r) (lessL (aheadL f r))=moreL f g r :=
 both_of (ahead_bok hr) (lessL_bok _) (more_bok hr) (more_sum hr h)
open Go.RowKit Go.Shelf
abbrev sv (k n:Int) (sp si sf sd:Value):Value:= .agg #[.int .i64 k, .int .i64 n,sp,si,sf,sd]
abbrev sc (k n:Int) (sp si sf sd:Value):Array Value:=#[.int .i64 k, .int .i64 n,sp,si,sf,sd]
abbrev nilV:Value:= .slice none 0 0
structure Ses (w:World) (sp si sf sd:Value) (s:SS):Prop where
 kd:KdS 0 w s.t sp
 ly:LyR w si s.K
 ts:Ts w sf s.f
 rs:Rs w sd s.d
theorem Ses.keep {w w1:World} {sp si sf sd:Value} {s:SS} (h:Ses w sp si sf sd s) (hb:Below w.heap.size w w1):Ses w1 sp si sf sd s:=⟨h.kd.keep hb,h.ly.keep hb,h.ts.keep hb,h.rs.keep hb⟩
theorem Ses.sl {w:World} {sp si sf sd:Value} {s:SS} (h:Ses w sp si sf sd s):∃ a0 c0 a1 c1 a2 c2 a3 c3,sp= .slice a0 s.t.len c0/\si= .slice a1 s.K.length c1/\sf= .slice a2 s.f.length c2/\sd= .slice a3 s.d.length c3:=by
 obtain ⟨a0,c0,e0⟩:=h.kd.sl;obtain ⟨a1,c1,e1⟩:=h.ly.sl;obtain ⟨a2,c2,e2,-⟩:=h.ts;obtain ⟨a3,c3,e3,-⟩:=Rs.open h.rs;exact ⟨a0,c0,a1,c1,a2,c2,a3,c3,e0,e1,e2,e3⟩
theorem Bk.six {w:World} {k:Nat} {x0 x1 x2 x3 x4 x5:Value} {t:TypeId} (h:Bk w k #[x0,x1,x2,x3,x4,x5] t) :
  w.cell? ⟨k,0,none⟩=some x0/\w.cell? ⟨k,1,none⟩=some x1/\w.cell? ⟨k,2,none⟩=some x2/\w.cell? ⟨k,3,none⟩=some x3/\w.cell? ⟨k,4,none⟩=some x4/\w.cell? ⟨k,5,none⟩=some x5:=by
 unfold Bk at h;simp [World.cell?,h]
theorem implCov_eq {f:LI} {x y:Int} {r:Bool} (h:covB f x y=r) {v:Value} {w:World} (ht:Ts w v f):Calls Tryz.prog 29 #[v,tv x y] w fun e w'=>e= .returned (.bool r)/\Below w.heap.size w w':=implCovers_eq h ht
theorem specCov_eq {f:LI} {x y:Int} {r:Bool} (h:covB f x y=r) {v:Value} {w:World} (ht:Ts w v f):Calls Tryz.prog 62 #[v,tv x y] w fun e w'=>e= .returned (.bool r)/\Below w.heap.size w w':=specCovers_eq h ht
theorem aheadOf_any (fv lv:Value) (f:LI) (l:List Rw) (w:World) (hf:Ts w fv f) (hl:Rs w lv l) (hll:l.length<=1000000) :
  Calls Tryz.prog 83 #[fv,lv] w fun e w'=>∃ o:Value,e= .returned o/\OwnR w' w.heap.size o (aheadL f l)/\Below w.heap.size w w':=by
 have HT:=(show Hid (Ts w fv f) from hf);obtain ⟨af,capf,rfl,-,-,-,-⟩:=hf;obtain ⟨a,cap,rfl,hc,hm,hn,hcells⟩:=Rs.open hl;unfold maxLen at hm;have HC:=(show Hid _ from hcells);have o0:OwnR w w.heap.size (.slice none 0 0) []:=oN _ _ _ _ _;clear hcells hl;go_enter Tryz.func83,Tryz.ntmps83;go_wp2_with fail
 go_loopw [5,10] (fun o i wr=>∃ k:Nat,k<=l.length/\i= .int .i64 k/\OwnR wr w.heap.size o (aheadL f (l.take k))/\Below w.heap.size w wr) (fun _ i _=>l.length-(intOf i).toNat)
 case atStart=>exact ⟨0,by omega,rfl,o0,Below.refl _ _⟩
 case round =>
  clear o0;obtain ⟨k,hkl,rfl,hown,hb⟩:=hrel;have HO:Hid (OwnR wr w.heap.size u5 (aheadL f (l.take k))):=hown;clear hown
  by_cases hlt:k<l.length
  ·obtain ⟨g,off,K,V,A,B,D,rfl,hg,hr,c0,c1,c2,c3,c4⟩:=HC.out k hlt;have HZ:=(show Hid _ from ahead_snoc (f:=f) hr);have d0:=cB hb c0;have d1:=cB hb c1;have d2:=cB hb c2;have d3:=cB hb c3;have d4:=cB hb c4;have hL:(aheadL f (l.take k)).length<=2000000:=by have:=ahead_len f (l.take k);simp at this;omega
   have ik:((k:Int)<(l.length:Int)):=by omega
   have bt0:=Bk.new (w:=wr) #[.int .i64 K, .int .i64 V, .int .i64 A, .int .i64 B, .int .i64 D] 55 rfl;have hbt:Below wr.heap.size wr (wr.alloc (.cells #[.int .i64 K, .int .i64 V, .int .i64 A, .int .i64 B, .int .i64 D] 55)):=bAz (Below.refl _ _) _;have hb':=bSz hb hbt;have O1:Hid (OwnR (wr.alloc (.cells #[.int .i64 K, .int .i64 V, .int .i64 A, .int .i64 B, .int .i64 D] 55)) w.heap.size u5 (aheadL f (l.take k))):=HO.out.alloc _;have T1:=HT.out.keep hb';obtain ⟨x0,x1,x2,x3,x4⟩:=bt0.five;have hwr:=hb.size;clear c0 c1 c2 c3 c4 hr HO hb hbt;cases hcv:covB f A B
   ·rw [hcv] at HZ;go_wp2_with fail;generalize wr.heap.size=tb at *;generalize World.alloc _ _=wt at *;refine (implCov_eq hcv T1).mono ?_;rintro e w3 ⟨rfl,hb3⟩;have bt3:=bt0.keep hb3;have hb4:=bSz hb' hb3;have O3:OwnR w3 w.heap.size u5 (aheadL f (l.take k)):=oK O1.out hb3;obtain ⟨y0,y1,y2,y3,y4⟩:=bt3.five;have hs5:=hb4.size;clear d0 d1 d2 d3 d4 O1 bt0 T1 hb' hcv x0 x1 x2 x3 x4 hb3;generalize aheadL f (l.take k)=L at *
    go_wp2_with (at_builtin;refine appR _ rfl _ _ rfl w.heap.size _ _ rfl (O3.alloc _) _ _ _ _ _ _ rfl (Bk.new _ _ rfl) (by omega) (by simp;omega) ?_;intro g7 cap7 w7 own7 hgrow hlg)
    have hb7:Below w.heap.size w w7:=Below.grew (bAz hb4 _) hgrow (by simp;omega) (oB O3);go_roundw
    case rel =>
     refine ⟨k+1,by omega,by go_num,?_,hb7⟩;rw [HZ.out];exact own7
    case measure=>simp [intOf];omega
   ·rw [hcv] at HZ;go_wp2_with fail;generalize World.alloc _ _=wt at *;refine (implCov_eq hcv T1).mono ?_;rintro e w3 ⟨rfl,hb3⟩;have hb4:=bSz hb' hb3;have O3:OwnR w3 w.heap.size u5 (aheadL f (l.take k)):=oK O1.out hb3;clear d0 d1 d2 d3 d4 O1 bt0 T1 hb' hcv x0 x1 x2 x3 x4 hb3;go_wp2_with fail;go_roundw
    case rel =>
     refine ⟨k+1,by omega,by go_num,?_,hb4⟩;rw [HZ.out];simpa using O3
    case measure=>simp [intOf];omega
  ·obtain rfl:k=l.length:=by omega
   have ik:¬ ((l.length:Int)<(l.length:Int)):=by omega
   rw [List.take_length] at HO;go_wp2_with fail;go_ret;exact ⟨_,rfl,HO.out,hb⟩
theorem l31Ahead_any (lv fv:Value) (f:LI) (l:List Rw) (w:World) (hl:Rs w lv l) (hf:Ts w fv f) (hll:l.length<=1000000) :
  Calls Tryz.prog 71 #[lv,fv] w fun e w'=>∃ o:Value,e= .returned o/\OwnR w' w.heap.size o (aheadL f l)/\Below w.heap.size w w':=by
 have HT:=(show Hid (Ts w fv f) from hf);obtain ⟨af,capf,rfl,-,-,-,-⟩:=hf;obtain ⟨a,cap,rfl,hc,hm,hn,hcells⟩:=Rs.open hl;unfold maxLen at hm;have HC:=(show Hid _ from hcells);have o0:=oEz w rfl;have hb0:=bAz (Below.refl w.heap.size w) (.cells #[] 55);clear hcells hl;go_enter Tryz.func71,Tryz.ntmps71;go_wp2_with fail
 go_loopw [5,6] (fun o i wr=>∃ k:Nat,k<=l.length/\i= .int .i64 k/\OwnR wr w.heap.size o (aheadL f (l.take k))/\Below w.heap.size w wr) (fun _ i _=>l.length-(intOf i).toNat)
 case atStart=>exact ⟨0,by omega,rfl,o0,hb0⟩
 case round =>
  clear o0 hb0;obtain ⟨k,hkl,rfl,hown,hb⟩:=hrel;have HO:Hid (OwnR wr w.heap.size u5 (aheadL f (l.take k))):=hown;clear hown
  by_cases hlt:k<l.length
  ·obtain ⟨g,off,K,V,A,B,D,rfl,hg,hr,c0,c1,c2,c3,c4⟩:=HC.out k hlt;have HZ:=(show Hid _ from ahead_snoc (f:=f) hr);have d2:=cB hb c2;have d3:=cB hb c3;have HX:Hid (∀ W,Below w.heap.size w W->W.cell? ⟨g,off+k*5,none⟩=some (.int .i64 K)/\W.cell? ⟨g,off+k*5+1,none⟩=some (.int .i64 V)/\W.cell? ⟨g,off+k*5+2,none⟩=some (.int .i64 A)/\W.cell? ⟨g,off+k*5+3,none⟩=some (.int .i64 B)/\W.cell? ⟨g,off+k*5+4,none⟩=some (.int .i64 D)) :=
    fun W hW=>⟨cB hW c0,cB hW c1,cB hW c2,cB hW c3,cB hW c4⟩
   have hL:(aheadL f (l.take k)).length<=2000000:=by have:=ahead_len f (l.take k);simp at this;omega
   have ik:((k:Int)<(l.length:Int)):=by omega
   have T1:=HT.out.keep hb;have hwr:=hb.size;clear c0 c1 c2 c3 c4 hr;cases hcv:covB f A B
   ·rw [hcv] at HZ;go_wp2_with fail;refine (specCov_eq hcv T1).mono ?_;rintro e w3 ⟨rfl,hb3⟩;have hb4:=bSz hb hb3;have O3:OwnR w3 w.heap.size u5 (aheadL f (l.take k)):=oK HO.out hb3;obtain ⟨y0,y1,y2,y3,y4⟩:=HX.out _ hb4;have hs5:=hb4.size;clear d2 d3 HO T1 hb hcv hb3;generalize aheadL f (l.take k)=L at *
    go_wp2_with (at_builtin;refine appR _ rfl _ _ rfl w.heap.size _ _ rfl (O3.alloc _) _ _ _ _ _ _ rfl (Bk.new _ _ rfl) (by omega) (by simp;omega) ?_;intro g7 cap7 w7 own7 hgrow hlg)
    have hb7:Below w.heap.size w w7:=Below.grew (bAz hb4 _) hgrow (by simp;omega) (oB O3);go_roundw
    case rel =>
     refine ⟨k+1,by omega,by go_num,?_,hb7⟩;rw [HZ.out];exact own7
    case measure=>simp [intOf];omega
   ·rw [hcv] at HZ;go_wp2_with fail;refine (specCov_eq hcv T1).mono ?_;rintro e w3 ⟨rfl,hb3⟩;have hb4:=bSz hb hb3;have O3:OwnR w3 w.heap.size u5 (aheadL f (l.take k)):=oK HO.out hb3;clear d2 d3 HO T1 hb hcv hb3;go_wp2_with fail;go_roundw
    case rel =>
     refine ⟨k+1,by omega,by go_num,?_,hb4⟩;rw [HZ.out];simpa using O3
    case measure=>simp [intOf];omega
  ·obtain rfl:k=l.length:=by omega
   have ik:¬ ((l.length:Int)<(l.length:Int)):=by omega
   rw [List.take_length] at HO;go_wp2_with fail;go_ret;exact ⟨_,rfl,HO.out,hb⟩
attribute [local go_sem ↓] Go.wp_at_zero Go.wp_at_succ
theorem equalR_any (v u:Value) (l m:List Rw) (w:World) (h:Rs w v l) (h':Rs w u m) :
  Calls Tryz.prog 152 #[v,u] w fun e w'=>e= .returned (.bool (decide (l=m)))/\Below w.heap.size w w':=by
 obtain ⟨a,c,rfl,hc,hm,hn,hcell⟩:=Rs.open h;obtain ⟨a',c',rfl,hc',hm',hn',hcell'⟩:=Rs.open h';unfold maxLen at hm hm';have HC:=(show Hid _ from hcell);have HC':=(show Hid _ from hcell');clear hcell hcell' h h'
 by_cases hlen:l.length=m.length
 ·have HLN:Hid (l.length=m.length):=hlen;have hlb:((l.length:Int)==(m.length:Int))=true:=by simp [hlen]
  have hlc:(l.length==m.length)=true:=by simp [hlen]
  have hle:l.length<=m.length:=by omega
  clear hlen;go_enter Tryz.func152,Tryz.ntmps152;go_wp2_with fail
  go_loopw [13] (fun i wr=>∃ k:Nat,k<=l.length/\i= .int .i64 k/\l.take k=m.take k/\Below w.heap.size w wr) (fun i _=>l.length-(intOf i).toNat)
  case atStart=>exact ⟨0,by omega,rfl,by simp,Below.refl _ _⟩
  case round =>
   obtain ⟨k,hkl,rfl,htk,hb⟩:=hrel;have HTK:Hid (l.take k=m.take k):=htk;clear htk
   by_cases hlt:k<l.length
   ·obtain ⟨g,off,K,V,A,B,D,rfl,hg,hr,c0,c1,c2,c3,c4⟩:=HC.out k hlt;obtain ⟨g2,off2,K2,V2,A2,B2,D2,rfl,hg2,hr2,p0,p1,p2,p3,p4⟩:=HC'.out k (by omega);have ik:((k:Int)<(l.length:Int)):=by omega
    have ik2:((k:Int)<(m.length:Int)):=by omega
    have d0:=cB hb c0;have f0:=cB hb p0;have d1:=cB hb c1;have f1:=cB hb p1;have d2:=cB hb c2;have f2:=cB hb p2;have d3:=cB hb c3;have f3:=cB hb p3;have d4:=cB hb c4;have f4:=cB hb p4;clear c0 c1 c2 c3 c4 p0 p1 p2 p3 p4
    by_cases hK:K=K2
    case neg =>
     have HNE:Hid (decide (l=m)=false):=decide_eq_false fun e=>by rw [e,hr2] at hr;simp at hr;omega
     clear hr hr2;go_wp2_with fail
     go_quiet (fail)
     have hbq:Below w.heap.size w (wr.drewN nq):=bDz hb _;go_wp2_with fail;go_ret;exact ⟨by have h:=HNE.out;simp_all,hbq⟩
    by_cases hV:V=V2
    case neg =>
     have HNE:Hid (decide (l=m)=false):=decide_eq_false fun e=>by rw [e,hr2] at hr;simp at hr;omega
     clear hr hr2;go_wp2_with fail
     go_quiet (fail)
     have hbq:Below w.heap.size w (wr.drewN nq):=bDz hb _;go_wp2_with fail;go_ret;exact ⟨by have h:=HNE.out;simp_all,hbq⟩
    by_cases hA:A=A2
    case neg =>
     have HNE:Hid (decide (l=m)=false):=decide_eq_false fun e=>by rw [e,hr2] at hr;simp at hr;omega
     clear hr hr2;go_wp2_with fail
     go_quiet (fail)
     have hbq:Below w.heap.size w (wr.drewN nq):=bDz hb _;go_wp2_with fail;go_ret;exact ⟨by have h:=HNE.out;simp_all,hbq⟩
    by_cases hB:B=B2
    case neg =>
     have HNE:Hid (decide (l=m)=false):=decide_eq_false fun e=>by rw [e,hr2] at hr;simp at hr;omega
     clear hr hr2;go_wp2_with fail
     go_quiet (fail)
     have hbq:Below w.heap.size w (wr.drewN nq):=bDz hb _;go_wp2_with fail;go_ret;exact ⟨by have h:=HNE.out;simp_all,hbq⟩
    by_cases hD:D=D2
    case neg =>
     have HNE:Hid (decide (l=m)=false):=decide_eq_false fun e=>by rw [e,hr2] at hr;simp at hr;omega
     clear hr hr2;go_wp2_with fail
     go_quiet (fail)
     have hbq:Below w.heap.size w (wr.drewN nq):=bDz hb _;go_wp2_with fail;go_ret;exact ⟨by have h:=HNE.out;simp_all,hbq⟩
    subst hK hV hA hB hD;have HTN:Hid (l.take (k+1)=m.take (k+1)):=by show _=_;rw [List.take_add_one,List.take_add_one,hr,hr2,HTK.out]
    clear hr hr2;go_wp2_with fail
    go_quiet (fail)
    have hbq:Below w.heap.size w (wr.drewN nq):=bDz hb _;go_wp2_with fail;go_roundw
    case rel=>exact ⟨k+1,by omega,by go_num,HTN.out,hbq⟩
    case measure=>simp [intOf];omega
   ·have HEQ:Hid (decide (l=m)=true):=decide_eq_true (by have h1:=HTK.out;have h2:=HLN.out;rw [List.take_of_length_le (by omega),List.take_of_length_le (by omega)] at h1;exact h1);have ik:¬ ((k:Int)<(l.length:Int)):=by omega
    go_wp2_with fail;go_ret;exact ⟨by have h:=HEQ.out;simp_all,hb⟩
 ·have HNE:Hid (decide (l=m)=false):=decide_eq_false fun e=>hlen (by rw [e]);have hlb:((l.length:Int)==(m.length:Int))=false:=beq_eq_false_iff_ne.2 (by omega);have hlc:(l.length==m.length)=false:=beq_eq_false_iff_ne.2 hlen;go_enter Tryz.func152,Tryz.ntmps152;go_wp2_with fail;go_ret;exact ⟨by have h:=HNE.out;simp_all,Below.refl _ _⟩
theorem l31Rows_any (v u:Value) (l m:List Rw) (w:World) (h:Rs w v l) (h':Rs w u m) :
  Calls Tryz.prog 70 #[v,u] w fun e w'=>e= .returned (.bool (decide (l=m)))/\Below w.heap.size w w':=by
 obtain ⟨a,c,rfl,hc,hm,hn,hcell⟩:=Rs.open h;obtain ⟨a',c',rfl,hc',hm',hn',hcell'⟩:=Rs.open h';unfold maxLen at hm hm';have HC:=(show Hid _ from hcell);have HC':=(show Hid _ from hcell');clear hcell hcell' h h'
 by_cases hlen:l.length=m.length
 ·have HLN:Hid (l.length=m.length):=hlen;have hlb:((l.length:Int)==(m.length:Int))=true:=by simp [hlen]
  have hlc:(l.length==m.length)=true:=by simp [hlen]
  have hle:l.length<=m.length:=by omega
  clear hlen;go_enter Tryz.func70,Tryz.ntmps70;go_wp2_with fail
  go_loopw [5] (fun i wr=>∃ k:Nat,k<=l.length/\i= .int .i64 k/\l.take k=m.take k/\Below w.heap.size w wr) (fun i _=>l.length-(intOf i).toNat)
  case atStart=>exact ⟨0,by omega,rfl,by simp,Below.refl _ _⟩
  case round =>
   obtain ⟨k,hkl,rfl,htk,hb⟩:=hrel;have HTK:Hid (l.take k=m.take k):=htk;clear htk
   by_cases hlt:k<l.length
   ·obtain ⟨g,off,K,V,A,B,D,rfl,hg,hr,c0,c1,c2,c3,c4⟩:=HC.out k hlt;obtain ⟨g2,off2,K2,V2,A2,B2,D2,rfl,hg2,hr2,p0,p1,p2,p3,p4⟩:=HC'.out k (by omega);have ik:((k:Int)<(l.length:Int)):=by omega
    have ik2:((k:Int)<(m.length:Int)):=by omega
    have d0:=cB hb c0;have f0:=cB hb p0;have d1:=cB hb c1;have f1:=cB hb p1;have d2:=cB hb c2;have f2:=cB hb p2;have d3:=cB hb c3;have f3:=cB hb p3;have d4:=cB hb c4;have f4:=cB hb p4;clear c0 c1 c2 c3 c4 p0 p1 p2 p3 p4
    by_cases hK:K=K2
    case neg =>
     have HNE:Hid (decide (l=m)=false):=decide_eq_false fun e=>by rw [e,hr2] at hr;simp at hr;omega
     clear hr hr2;go_wp2_with fail
     go_quiet (fail)
     have hbq:Below w.heap.size w (wr.drewN nq):=bDz hb _;go_wp2_with fail;go_ret;exact ⟨by have h:=HNE.out;simp_all,hbq⟩
    by_cases hV:V=V2
    case neg =>
     have HNE:Hid (decide (l=m)=false):=decide_eq_false fun e=>by rw [e,hr2] at hr;simp at hr;omega
     clear hr hr2;go_wp2_with fail
     go_quiet (fail)
     have hbq:Below w.heap.size w (wr.drewN nq):=bDz hb _;go_wp2_with fail;go_ret;exact ⟨by have h:=HNE.out;simp_all,hbq⟩
    by_cases hA:A=A2
    case neg =>
     have HNE:Hid (decide (l=m)=false):=decide_eq_false fun e=>by rw [e,hr2] at hr;simp at hr;omega
     clear hr hr2;go_wp2_with fail
     go_quiet (fail)
     have hbq:Below w.heap.size w (wr.drewN nq):=bDz hb _;go_wp2_with fail;go_ret;exact ⟨by have h:=HNE.out;simp_all,hbq⟩
    by_cases hB:B=B2
    case neg =>
     have HNE:Hid (decide (l=m)=false):=decide_eq_false fun e=>by rw [e,hr2] at hr;simp at hr;omega
     clear hr hr2;go_wp2_with fail
     go_quiet (fail)
     have hbq:Below w.heap.size w (wr.drewN nq):=bDz hb _;go_wp2_with fail;go_ret;exact ⟨by have h:=HNE.out;simp_all,hbq⟩
    by_cases hD:D=D2
    case neg =>
     have HNE:Hid (decide (l=m)=false):=decide_eq_false fun e=>by rw [e,hr2] at hr;simp at hr;omega
     clear hr hr2;go_wp2_with fail
     go_quiet (fail)
     have hbq:Below w.heap.size w (wr.drewN nq):=bDz hb _;go_wp2_with fail;go_ret;exact ⟨by have h:=HNE.out;simp_all,hbq⟩
    subst hK hV hA hB hD;have HTN:Hid (l.take (k+1)=m.take (k+1)):=by show _=_;rw [List.take_add_one,List.take_add_one,hr,hr2,HTK.out]
    clear hr hr2;go_wp2_with fail
    go_quiet (fail)
    have hbq:Below w.heap.size w (wr.drewN nq):=bDz hb _;go_wp2_with fail;go_roundw
    case rel=>exact ⟨k+1,by omega,by go_num,HTN.out,hbq⟩
    case measure=>simp [intOf];omega
   ·have HEQ:Hid (decide (l=m)=true):=decide_eq_true (by have h1:=HTK.out;have h2:=HLN.out;rw [List.take_of_length_le (by omega),List.take_of_length_le (by omega)] at h1;exact h1);have ik:¬ ((k:Int)<(l.length:Int)):=by omega
    go_wp2_with fail;go_ret;exact ⟨by have h:=HEQ.out;simp_all,hb⟩
 ·have HNE:Hid (decide (l=m)=false):=decide_eq_false fun e=>hlen (by rw [e]);have hlb:((l.length:Int)==(m.length:Int))=false:=beq_eq_false_iff_ne.2 (by omega);have hlc:(l.length==m.length)=false:=beq_eq_false_iff_ne.2 hlen;go_enter Tryz.func70,Tryz.ntmps70;go_wp2_with fail;go_ret;exact ⟨by have h:=HNE.out;simp_all,Below.refl _ _⟩
theorem equalR_eq {l m:List Rw} {r:Bool} (h:decide (l=m)=r) {v u:Value} {w:World} (h1:Rs w v l) (h2:Rs w u m):Calls Tryz.prog 152 #[v,u] w fun e w'=>e= .returned (.bool r)/\Below w.heap.size w w':=by
 rw [<- h];exact equalR_any v u l m w h1 h2
theorem l31Rows_eq {l m:List Rw} {r:Bool} (h:decide (l=m)=r) {v u:Value} {w:World} (h1:Rs w v l) (h2:Rs w u m):Calls Tryz.prog 70 #[v,u] w fun e w'=>e= .returned (.bool r)/\Below w.heap.size w w':=by
 rw [<- h];exact l31Rows_any v u l m w h1 h2
end Go.Proofs.YtbdpcngcbnoioaaGreatDoor
