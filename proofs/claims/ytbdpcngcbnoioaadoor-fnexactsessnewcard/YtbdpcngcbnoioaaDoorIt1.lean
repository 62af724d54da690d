import Derived.Shelf.Strconv.Itoa3
import Derived.Test.YtbdpcngcbnoioaaDoorRows
import Derived.Test.YtbdpcngcbnoioaaDoorIt0
import Derived.Laws.IdiomStrings
namespace Go.Proofs.YtbdpcngcbnoioaaDoor
open Go.Shelf
def lenU_ren:Go.Shelf.Ren:=⟨fun|129=>67|n=>n,fun|53=>127|3=>3|4=>4|46=>138|5=>5|9=>9|n=>n,fun|n=>n⟩
theorem lenU:Go.Proofs.Lays.n129 Tryd.prog lenU_ren:={
 mixed:=by kernel_rfl,
 f129:=Tryd.func67.trans (congrArg some (by kernel_rfl)),
 t3:=Tryd.underlying3,
 a3:=Tryd.isAgg3,
 z3:=Tryd.sizeOf3,
 v3:=Tryd.zeroValue3,
 t4:=Tryd.underlying4,
 a4:=Tryd.isAgg4,
 z4:=Tryd.sizeOf4,
 v4:=Tryd.zeroValue4,
 t5:=Tryd.underlying5,
 a5:=Tryd.isAgg5,
 z5:=Tryd.sizeOf5,
 v5:=Tryd.zeroValue5,
 t9:=Tryd.underlying9,
 a9:=Tryd.isAgg9,
 z9:=Tryd.sizeOf9,
 v9:=Tryd.zeroValue9,
 t46:=Tryd.underlying138,
 a46:=Tryd.isAgg138,
 z46:=Tryd.sizeOf138,
 v46:=Tryd.zeroValue138,
 t53:=Tryd.underlying127,
 a53:=Tryd.isAgg127,
 z53:=Tryd.sizeOf127,
 v53:=Tryd.zeroValue127 }
def l10U_ren:Go.Shelf.Ren:=⟨fun|317=>66|n=>n,fun|3=>3|46=>138|n=>n,fun|n=>n⟩
theorem l10U:Go.Proofs.Lays.n317 Tryd.prog l10U_ren:={
 mixed:=by kernel_rfl,
 f317:=Tryd.func66.trans (congrArg some (by kernel_rfl)),
 t3:=Tryd.underlying3,
 a3:=Tryd.isAgg3,
 z3:=Tryd.sizeOf3,
 v3:=Tryd.zeroValue3,
 t46:=Tryd.underlying138,
 a46:=Tryd.isAgg138,
 z46:=Tryd.sizeOf138,
 v46:=Tryd.zeroValue138 }
def b2U_ren:Go.Shelf.Ren:=⟨fun|318=>68|n=>n,fun|3=>3|4=>4|n=>n,fun|n=>n⟩
theorem b2U:Go.Proofs.Lays.n318 Tryd.prog b2U_ren:={
 mixed:=by kernel_rfl,
 f318:=Tryd.func68.trans (congrArg some (by kernel_rfl)),
 t3:=Tryd.underlying3,
 a3:=Tryd.isAgg3,
 z3:=Tryd.sizeOf3,
 v3:=Tryd.zeroValue3,
 t4:=Tryd.underlying4,
 a4:=Tryd.isAgg4,
 z4:=Tryd.sizeOf4,
 v4:=Tryd.zeroValue4 }
end Go.Proofs.YtbdpcngcbnoioaaDoor
set_option maxRecDepth 100000
set_option maxHeartbeats 8000000
namespace Go.Proofs.YtbdpcngcbnoioaaDoor
open Go.RowKit Go.Shelf
theorem bool2_any (b:Bool) (w:World):Calls Tryd.prog 68 #[.bool b] w fun e w'=>(∃ o:Nat,o<=1/\e= .returned (.int .i64 (o:Int)))/\w'=w:=by
 refine (Any.internal_strconv_bool2_int b2U b w).mono ?_;rintro e w' ⟨rfl,rfl⟩;cases b
 ·exact ⟨⟨0,by omega,rfl⟩,rfl⟩
 ·exact ⟨⟨1,by omega,rfl⟩,rfl⟩
theorem bitLenAux_le:∀ f x:Nat,Lib.bitLenAux f x<=f
 | 0,_=>Nat.le_refl _
 | f+1,x=>by
  simp only [Lib.bitLenAux]
  split
  ·omega
  ·have:=bitLenAux_le f (x / 2);omega
theorem bitLen_64 (x:Nat):Lib.bitLen x<=64:=bitLenAux_le 64 x
theorem l10_19:∀ b:Fin 65,Lib.l10 b.val<=19:=by decide +kernel
def Pow (w:World):Prop:=∀ i:Nat,i<20->∃ z:Nat,z<18446744073709551616/\w.cell? ⟨1,i,none⟩=some (.int .u64 (z:Int))
theorem numDigits_any {u:Nat} (h2:u<18446744073709551616) (w:World) (hp:Pow w) :
  Calls Tryd.prog 63 #[.int .u64 (u:Int)] w fun e w'=>(∃ nd:Nat,nd<=20/\e= .returned (.int .i64 (nd:Int)))/\w'=w:=by
 have HP:=(show Hid (Pow w) from hp);have HL:=(show Hid _ from Any.bits_Len64 lenU (u:Int) w (by omega) (by omega));clear hp;go_enter Tryd.func63,Tryd.ntmps63;go_wp2_with fail;refine Calls.mono HL.out ?_;rintro e w1 ⟨rfl,rfl⟩;obtain ⟨b,hb,hb64⟩:∃ b:Nat,Lib.bitLen u=b/\b<=64:=⟨_,rfl,bitLen_64 u⟩;have HL10:=(show Hid _ from Any.internal_strconv_log10Pow2 l10U b hb64 w1);obtain ⟨k,hk,hk19⟩:∃ k:Nat,Lib.l10 b=k/\k<=19:=⟨_,rfl,l10_19 ⟨b,by omega⟩⟩;rw [hk] at HL10;obtain ⟨z,hz,hc⟩:=HP.out k (by omega);have ik:(0:Int)<=(k:Int)/\(k:Int)<20:=by omega
 have HB:=(show Hid _ from fun (b:Bool)=>bool2_any b w1);clear hk HL;go_wp2_with fail;clear hb;refine Calls.mono HL10.out ?_;rintro e w2 ⟨rfl,rfl⟩;go_wp2_with fail;refine Calls.mono (HB.out _) ?_;rintro e w3 ⟨⟨o,ho,rfl⟩,rfl⟩;have io:IntKind.i64.wrap ((k:Int)+(o:Int))=((k+o:Nat):Int):=by rw [IntKind.wrap_i64];omega
 go_wp2_with fail;go_ret;exact ⟨⟨k+o,by omega,by first|rfl|simp⟩,rfl⟩
theorem byt_list {w:World} {blk:Nat} {cs:Array Value} {t:TypeId} (hb:Bk w blk cs t) (hy:Byt cs):∀ (m off:Nat),off+m<=cs.size->∃ l:List UInt8,l.length=m/\∀ j (hj:j<l.length),w.cell? ⟨blk,off+j,none⟩=some (.int .u8 (l[j].toNat:Int))
 | 0,_,_=>⟨[],rfl,fun j hj=>by simp at hj⟩
 | m+1,off,h=>by
  obtain ⟨l,hl,hc⟩:=byt_list hb hy m (off+1) (by omega);obtain ⟨n,hn,h0⟩:=hy off (by omega);refine ⟨UInt8.ofNat n::l,by simp [hl],fun j hj=>?_⟩;cases j with
  | zero =>
   have:=hb.cell h0;simp only [List.getElem_cons_zero,UInt8.toNat_ofNat',Nat.add_zero];rw [this];simp [Nat.mod_eq_of_lt hn]
  | succ j =>
   have:=hc j (by simpa using hj);simp only [List.getElem_cons_succ];rw [<- this]
   congr 2
   omega
abbrev zer24:Array Value:=#[.int .u8 0, .int .u8 0, .int .u8 0, .int .u8 0, .int .u8 0, .int .u8 0, .int .u8 0, .int .u8 0, .int .u8 0, .int .u8 0, .int .u8 0, .int .u8 0, .int .u8 0, .int .u8 0, .int .u8 0, .int .u8 0, .int .u8 0, .int .u8 0, .int .u8 0, .int .u8 0, .int .u8 0, .int .u8 0, .int .u8 0, .int .u8 0]
theorem zer24_byt:Byt zer24:=by
 intro i hi;refine ⟨0,by omega,?_⟩;have e:zer24=Array.replicate 24 (.int .u8 0):=rfl;rw [e,Array.getElem?_replicate,if_pos (show i<24 from hi)]
 rfl
theorem fmI_new (w:World):FmI w.heap.size 24 (w.alloc (.cells zer24 126)) (w.alloc (.cells zer24 126)) :=
 ⟨⟨zer24,Bk.new _ _ rfl,rfl,zer24_byt⟩,fun _ _ _=>rfl,rfl,rfl,rfl,Nat.le_refl _⟩
theorem FmI.below {blk sz:Nat} {w0 w wr:World} (h:FmI blk sz w wr) (h0:Below w0.heap.size w0 w) (hb:w0.heap.size<=blk):Below w0.heap.size w0 wr :=
 h0.trans ⟨h.os.1,h.os.2.1,h.os.2.2.1,h.os.2.2.2,fun b hl=>h.bx b (Nat.lt_of_lt_of_le hl h0.size) (by omega)⟩
theorem FmI.conv {blk sz:Nat} {w wr:World} (h:FmI blk sz w wr) (off m cap:Nat) (hm:off+m<=sz):∃ s:ByteArray,s.size=m/\(convert 130 9 (.slice (some ⟨blk,off,none⟩) m cap)).run Tryd.prog wr= .ok (.string s) wr:=by
 obtain ⟨⟨cs,hb,hs,hy⟩,_⟩:=h;obtain ⟨l,hl,hc⟩:=byt_list hb hy m off (by omega);refine ⟨⟨l.toArray⟩,by show l.toArray.size=m;simpa using hl,?_⟩;subst hl;refine run_convert_bytes_back (P:=Tryd.prog) wr 130 9 5 ⟨blk,off,none⟩ cap l Tryd.underlying130 Tryd.underlying5 Tryd.underlying9 fun j hj=>?_;have e:(⟨blk,off,none⟩:Addr).add j=⟨blk,off+j,none⟩:=by simp [Addr.add]
 rw [e];exact hc j hj
theorem formatInt_any {n:Int} (hn:n<0\/100<=n) (h0 : -9223372036854775808<=n) (h1:n<=9223372036854775807) (w:World) (hp:Pow w) :
  Calls Tryd.prog 61 #[.int .i64 n, .int .i64 10] w fun e w'=>(∃ s:ByteArray,e= .returned (.string s)/\s.size<=24)/\Below w.heap.size w w':=by
 have hb0:Below w.heap.size w (w.alloc (.cells zer24 126)):=bAz (Below.refl _ _) _;have HN:=(show Hid _ from fmI_new w);have HP:Hid (Pow (w.alloc (.cells zer24 126))):=fun i hi=>by
  obtain ⟨z,hz,hc⟩:=hp i hi;exact ⟨z,hz,cB hb0 hc⟩
 have HB0:=(show Hid _ from hb0);clear hp hb0
 rcases hn with hn|hn
 ·have i1:¬ (0<=n):=by omega
  obtain ⟨u,hu,hlt⟩:∃ u:Nat,IntKind.u64.wrap (-IntKind.u64.wrap n)=(u:Int)/\u<18446744073709551616:=⟨(-n).toNat,by rw [IntKind.wrap_u64,IntKind.wrap_u64];omega,by omega⟩;go_enter Tryd.func61,Tryd.ntmps61;go_wp2_with fail;generalize (w.alloc (.cells zer24 126))=W0 at *;refine Calls.mono (numDigits_any hlt W0 HP.out) ?_;rintro e W0' ⟨⟨nd,hnd,rfl⟩,rfl⟩;have iw:IntKind.i64.wrap (1+(nd:Int))=1+(nd:Int):=by rw [IntKind.wrap_i64];omega
  have j1:(1:Int)<=1+(nd:Int)/\1+(nd:Int)<=24:=by omega
  go_wp2_with fail;refine Calls.mono (fmt10_any HN.out (off:=1) (cap:=23) (by omega) (by omega) hlt) ?_;rintro e w3 ⟨rfl,hf⟩;have HF:=(show Hid _ from hf);obtain ⟨z,hz,hzf⟩:=FmI.get HF.out (i:=0) (by omega);have HF4:Hid (FmI w.heap.size 24 W0' (w3.setCell ⟨w.heap.size,0,none⟩ (.int .u8 45))):=FmI.putI HF.out 0 45 (by omega);obtain ⟨s,hs,hcv⟩:=FmI.conv HF4.out 0 (nd+1) 24 (by omega);have HBF:Hid (Below w.heap.size w (w3.setCell ⟨w.heap.size,0,none⟩ (.int .u8 45))):=FmI.below HF4.out HB0.out (Nat.le_refl _);have j0:(0:Int)<=1+(nd:Int)/\1+(nd:Int)<=24:=by omega
  have j2:(1+(nd:Int)).toNat=nd+1:=by omega
  clear hf;go_wp2_with fail;go_ret;exact ⟨⟨s,rfl,by omega⟩,HBF.out⟩
 ·have i1:(0<=n):=by omega
  have i2:¬ (n<100):=by omega
  have i3:¬ (n<0):=by omega
  obtain ⟨u,rfl⟩:=Int.eq_ofNat_of_zero_le i1;have hlt:u<18446744073709551616:=by omega
  go_enter Tryd.func61,Tryd.ntmps61;go_wp2_with fail;generalize (w.alloc (.cells zer24 126))=W0 at *;refine Calls.mono (numDigits_any hlt W0 HP.out) ?_;rintro e W0' ⟨⟨nd,hnd,rfl⟩,rfl⟩;have iw:IntKind.i64.wrap (1+(nd:Int))=1+(nd:Int):=by rw [IntKind.wrap_i64];omega
  have j1:(1:Int)<=1+(nd:Int)/\1+(nd:Int)<=24:=by omega
  go_wp2_with fail;refine Calls.mono (fmt10_any HN.out (off:=1) (cap:=23) (by omega) (by omega) hlt) ?_;rintro e w3 ⟨rfl,hf⟩;have HF:=(show Hid _ from hf);obtain ⟨s,hs,hcv⟩:=FmI.conv HF.out 1 nd 23 (by omega);have HBF:Hid (Below w.heap.size w w3):=FmI.below HF.out HB0.out (Nat.le_refl _);clear hf;go_wp2_with fail;go_ret;exact ⟨⟨s,rfl,by omega⟩,HBF.out⟩
theorem itoa_any (n:Int) (h0 : -9223372036854775808<=n) (h1:n<=9223372036854775807) (w:World) (hp:Pow w) :
  Calls Tryd.prog 59 #[.int .i64 n] w fun e w'=>(∃ s:ByteArray,e= .returned (.string s)/\s.size<=24)/\Below w.heap.size w w':=by
 by_cases hs:0<=n/\n<100
 ·obtain ⟨i,rfl⟩:=Int.eq_ofNat_of_zero_le hs.1;refine (Any.strconv_Itoa_small itoU i (by omega) w).mono ?_;rintro e w' ⟨rfl,rfl⟩;refine ⟨⟨_,rfl,?_⟩,Below.refl _ _⟩;have h:∀ i:Fin 100,(Lib.decDigits i.val).length<=24:=by decide +kernel
  have:=h ⟨i,by omega⟩
  show (Lib.decDigits i).toArray.size<=24
  simpa using this
 ·have HF:=(show Hid _ from formatInt_any (n:=n) (by omega) h0 h1 w hp);have h2:Calls Tryd.prog 60 #[.int .i64 n] w fun e w'=>(∃ s:ByteArray,e= .returned (.string s)/\s.size<=24)/\Below w.heap.size w w':=by
   go_enter Tryd.func60,Tryd.ntmps60;go_wp2_with fail;refine Calls.mono HF.out ?_;rintro e w1 ⟨⟨s,rfl,hs⟩,hb⟩;go_wp2_with fail;go_ret;exact ⟨⟨s,rfl,hs⟩,hb⟩
  have HI:=(show Hid _ from h2);clear h2;go_enter Tryd.func59,Tryd.ntmps59;go_wp2_with fail;refine Calls.mono HI.out ?_;rintro e w1 ⟨⟨s,rfl,hs⟩,hb⟩;go_wp2_with fail;go_ret;exact ⟨⟨s,rfl,hs⟩,hb⟩
end Go.Proofs.YtbdpcngcbnoioaaDoor
