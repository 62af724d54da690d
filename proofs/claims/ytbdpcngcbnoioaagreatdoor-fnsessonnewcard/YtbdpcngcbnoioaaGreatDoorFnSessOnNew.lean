/- For all bytes: SessOn of the program tells of the plan at work and the front that they draw what the model tells of them; where it moves on, that is a batch, and of times that the front before covers, or is at, and the new one does not; the argument reads afterwards as before. No condition. -/
import Derived.Test.YtbdpcngcbnoioaaGreatDoorGqg
import Derived.Test.YtbdpcngcbnoioaaGreatDoorPf
import Derived.Test.YtbdpcngcbnoioaaGreatDoorPfg
import Derived.Test.YtbdpcngcbnoioaaGreatDoorTie
import Derived.ChangeSame
import Derived.ChangeVars
import Derived.RowKit
import Derived.LaidLaws
import Derived.LaidHandle
import Derived.Stop.Joined
import Derived.Stop.LaidErr
set_option maxRecDepth 100000
set_option maxHeartbeats 8000000
namespace Go.Proofs.YtbdpcngcbnoioaaGreatDoor
open Go.RowKit
namespace FnSessOnNew
theorem walk (ea:Addr) (x0:Option Addr) (len0 cap0:Nat) (w:World) (h0:Src w (.slice x0 len0 cap0) len0) (hg:w.cell? ⟨0,0,none⟩=some (erV ea)) :
  Calls Tryz.prog 5 #[.slice x0 len0 cap0] w fun e w'=>e= .returned (.bool true)/\Below w.heap.size w w':=by
 by_cases g0:(1048576:Int)<(len0:Int)
 ·go_enter Tryz.func5,Tryz.ntmps5;go_wp2_with fail;go_ret;exact ⟨rfl,Below.refl _ _⟩
 go_enter Tryz.func5,Tryz.ntmps5;go_wp2_with fail;refine (drawSessOn_any _ _ _ _ h0).mono ?_;rintro e w1 ⟨s,sp0,si0,sf0,sd0,fv0,f,rfl,hdr,hfl,S_1,F_1,hb1⟩;have hbw1:=hb1;clear h0 hb1;obtain ⟨a0,a1,a2,a3,a4,a5,a6,a7,rfl,rfl,rfl,rfl⟩:=S_1.sl;obtain ⟨f0,f1,rfl,-⟩:=(id F_1:Ts _ fv0 f);have HM:=(show Hid (s.t.sm) from hdr.sm);have HFL:=(show Hid (f.length<=1000) from hfl);clear hfl;have HDR:=(show Hid (DrS s) from hdr);clear hdr;have hbx2:Below w1.heap.size w1 (w1.alloc (.cells (sc s.t.k s.t.n (.slice a0 s.t.len a1) (.slice a2 s.K.length a3) (.slice a4 s.f.length a5) (.slice a6 s.d.length a7)) 30)):=bAz (Below.refl _ _) _;have AB_2:Bk (w1.alloc (.cells (sc s.t.k s.t.n (.slice a0 s.t.len a1) (.slice a2 s.K.length a3) (.slice a4 s.f.length a5) (.slice a6 s.d.length a7)) 30)) w1.heap.size (sc s.t.k s.t.n (.slice a0 s.t.len a1) (.slice a2 s.K.length a3) (.slice a4 s.f.length a5) (.slice a6 s.d.length a7)) 30:=Bk.new _ _ rfl;have S_2:=S_1.keep hbx2;have F_2:=F_1.keep hbx2;have hbw2:=bSz hbw1 hbx2;clear S_1 F_1 hbw1 hbx2
 rcases ho:onS s f with _|⟨s1,m1⟩
 ·obtain ⟨s1,m1,hs1⟩:∃ s1 m1,OnK s f false s1 m1:=⟨_,_,onK_none ho⟩;have HO:Hid (OnK s f false s1 m1):=hs1;clear hs1 ho;obtain ⟨y00_2,y01_2,y02_2,y03_2,y04_2,y05_2⟩:=AB_2.six;go_wp2_with fail;clear y00_2 y01_2 y02_2 y03_2 y04_2 y05_2;refine (specOn_k HO.out HFL.out S_2 F_2).mono ?_;rintro e w3 ⟨u0,u1,u2,u3,u4,u5,u6,u7,u8,u9,rfl,W_3,R_3,hb3⟩;have S_3:=S_2.keep hb3;have F_3:=F_2.keep hb3;have AB_3:=AB_2.keep hb3;have hbw3:=bSz hbw2 hb3;clear S_2 F_2 AB_2 hbw2 hb3;have hbx4:Below w3.heap.size w3 (w3.alloc (.cells (sc s1.t.k s1.t.n (.slice u0 s1.t.len u1) (.slice u2 s1.K.length u3) (.slice u4 s1.f.length u5) (.slice u6 s1.d.length u7)) 30)):=bAz (Below.refl _ _) _;have WB_4:Bk (w3.alloc (.cells (sc s1.t.k s1.t.n (.slice u0 s1.t.len u1) (.slice u2 s1.K.length u3) (.slice u4 s1.f.length u5) (.slice u6 s1.d.length u7)) 30)) w3.heap.size (sc s1.t.k s1.t.n (.slice u0 s1.t.len u1) (.slice u2 s1.K.length u3) (.slice u4 s1.f.length u5) (.slice u6 s1.d.length u7)) 30:=Bk.new _ _ rfl;have S_4:=S_3.keep hbx4;have F_4:=F_3.keep hbx4;have AB_4:=AB_3.keep hbx4;have W_4:=W_3.keep hbx4;have R_4:=R_3.keep hbx4;have hbw4:=bSz hbw3 hbx4;clear S_3 F_3 AB_3 W_3 R_3 hbw3 hbx4;obtain ⟨y00_4,y01_4,y02_4,y03_4,y04_4,y05_4⟩:=AB_4.six;obtain ⟨y10_4,y11_4,y12_4,y13_4,y14_4,y15_4⟩:=WB_4.six;go_wp2_with fail;clear y00_4 y01_4 y02_4 y03_4 y04_4 y05_4 y10_4 y11_4 y12_4 y13_4 y14_4 y15_4;refine (implOn_k ea HO.out HFL.out HM.out S_4 F_4 (cB hbw4 hg)).mono ?_;rintro e w5 ⟨v0,v1,v2,v3,v4,v5,v6,v7,v8,v9,rfl,X_5,M_5,hb5⟩;have S_5:=S_4.keep hb5;have F_5:=F_4.keep hb5;have AB_5:=AB_4.keep hb5;have W_5:=W_4.keep hb5;have R_5:=R_4.keep hb5;have WB_5:=WB_4.keep hb5;have hbw5:=bSz hbw4 hb5;clear S_4 F_4 AB_4 W_4 R_4 WB_4 hbw4 hb5;have hbx6:Below w5.heap.size w5 (w5.alloc (.cells (sc s1.t.k s1.t.n (.slice v0 s1.t.len v1) (.slice v2 s1.K.length v3) (.slice v4 s1.f.length v5) (.slice v6 s1.d.length v7)) 30)):=bAz (Below.refl _ _) _;have XB_6:Bk (w5.alloc (.cells (sc s1.t.k s1.t.n (.slice v0 s1.t.len v1) (.slice v2 s1.K.length v3) (.slice v4 s1.f.length v5) (.slice v6 s1.d.length v7)) 30)) w5.heap.size (sc s1.t.k s1.t.n (.slice v0 s1.t.len v1) (.slice v2 s1.K.length v3) (.slice v4 s1.f.length v5) (.slice v6 s1.d.length v7)) 30:=Bk.new _ _ rfl;have S_6:=S_5.keep hbx6;have F_6:=F_5.keep hbx6;have AB_6:=AB_5.keep hbx6;have W_6:=W_5.keep hbx6;have R_6:=R_5.keep hbx6;have WB_6:=WB_5.keep hbx6;have X_6:=X_5.keep hbx6;have M_6:=M_5.keep hbx6;have hbw6:=bSz hbw5 hbx6;clear S_5 F_5 AB_5 W_5 R_5 WB_5 X_5 M_5 hbw5 hbx6;obtain ⟨y00_6,y01_6,y02_6,y03_6,y04_6,y05_6⟩:=AB_6.six;obtain ⟨y10_6,y11_6,y12_6,y13_6,y14_6,y15_6⟩:=WB_6.six;obtain ⟨y20_6,y21_6,y22_6,y23_6,y24_6,y25_6⟩:=XB_6.six;go_wp2_with fail;clear y00_6 y01_6 y02_6 y03_6 y04_6 y05_6 y10_6 y11_6 y12_6 y13_6 y14_6 y15_6 y20_6 y21_6 y22_6 y23_6 y24_6 y25_6;refine (lwRows_eq (selfR _) M_6 R_6).mono ?_;rintro e w7 ⟨rfl,hb7⟩;have S_7:=S_6.keep hb7;have F_7:=F_6.keep hb7;have AB_7:=AB_6.keep hb7;have W_7:=W_6.keep hb7;have R_7:=R_6.keep hb7;have WB_7:=WB_6.keep hb7;have X_7:=X_6.keep hb7;have M_7:=M_6.keep hb7;have XB_7:=XB_6.keep hb7;have hbw7:=bSz hbw6 hb7;clear S_6 F_6 AB_6 W_6 R_6 WB_6 X_6 M_6 XB_6 hbw6 hb7;obtain ⟨y00_7,y01_7,y02_7,y03_7,y04_7,y05_7⟩:=AB_7.six;obtain ⟨y10_7,y11_7,y12_7,y13_7,y14_7,y15_7⟩:=WB_7.six;obtain ⟨y20_7,y21_7,y22_7,y23_7,y24_7,y25_7⟩:=XB_7.six;go_wp2_with fail;clear y00_7 y01_7 y02_7 y03_7 y04_7 y05_7 y10_7 y11_7 y12_7 y13_7 y14_7 y15_7 y20_7 y21_7 y22_7 y23_7 y24_7 y25_7;refine (lwRows_eq (selfR _) M_7 R_7).mono ?_;rintro e w8 ⟨rfl,hb8⟩;have S_8:=S_7.keep hb8;have F_8:=F_7.keep hb8;have AB_8:=AB_7.keep hb8;have W_8:=W_7.keep hb8;have R_8:=R_7.keep hb8;have WB_8:=WB_7.keep hb8;have X_8:=X_7.keep hb8;have M_8:=M_7.keep hb8;have XB_8:=XB_7.keep hb8;have hbw8:=bSz hbw7 hb8;clear S_7 F_7 AB_7 W_7 R_7 WB_7 X_7 M_7 XB_7 hbw7 hb8;obtain ⟨y00_8,y01_8,y02_8,y03_8,y04_8,y05_8⟩:=AB_8.six;obtain ⟨y10_8,y11_8,y12_8,y13_8,y14_8,y15_8⟩:=WB_8.six;obtain ⟨y20_8,y21_8,y22_8,y23_8,y24_8,y25_8⟩:=XB_8.six;go_wp2_with fail;go_ret;exact ⟨rfl,hbw8⟩
 ·have HON:=(show Hid (onS s f=some (s1,m1)) from ho);have HO:Hid (OnK s f true s1 m1):=onK_some ho;clear ho;obtain ⟨y00_2,y01_2,y02_2,y03_2,y04_2,y05_2⟩:=AB_2.six;go_wp2_with fail;clear y00_2 y01_2 y02_2 y03_2 y04_2 y05_2;refine (specOn_k HO.out HFL.out S_2 F_2).mono ?_;rintro e w3 ⟨u0,u1,u2,u3,u4,u5,u6,u7,u8,u9,rfl,W_3,R_3,hb3⟩;have S_3:=S_2.keep hb3;have F_3:=F_2.keep hb3;have AB_3:=AB_2.keep hb3;have hbw3:=bSz hbw2 hb3;clear S_2 F_2 AB_2 hbw2 hb3;have hbx4:Below w3.heap.size w3 (w3.alloc (.cells (sc s1.t.k s1.t.n (.slice u0 s1.t.len u1) (.slice u2 s1.K.length u3) (.slice u4 s1.f.length u5) (.slice u6 s1.d.length u7)) 30)):=bAz (Below.refl _ _) _;have WB_4:Bk (w3.alloc (.cells (sc s1.t.k s1.t.n (.slice u0 s1.t.len u1) (.slice u2 s1.K.length u3) (.slice u4 s1.f.length u5) (.slice u6 s1.d.length u7)) 30)) w3.heap.size (sc s1.t.k s1.t.n (.slice u0 s1.t.len u1) (.slice u2 s1.K.length u3) (.slice u4 s1.f.length u5) (.slice u6 s1.d.length u7)) 30:=Bk.new _ _ rfl;have S_4:=S_3.keep hbx4;have F_4:=F_3.keep hbx4;have AB_4:=AB_3.keep hbx4;have W_4:=W_3.keep hbx4;have R_4:=R_3.keep hbx4;have hbw4:=bSz hbw3 hbx4;clear S_3 F_3 AB_3 W_3 R_3 hbw3 hbx4;obtain ⟨y00_4,y01_4,y02_4,y03_4,y04_4,y05_4⟩:=AB_4.six;obtain ⟨y10_4,y11_4,y12_4,y13_4,y14_4,y15_4⟩:=WB_4.six;go_wp2_with fail;clear y00_4 y01_4 y02_4 y03_4 y04_4 y05_4 y10_4 y11_4 y12_4 y13_4 y14_4 y15_4;refine (implOn_k ea HO.out HFL.out HM.out S_4 F_4 (cB hbw4 hg)).mono ?_;rintro e w5 ⟨v0,v1,v2,v3,v4,v5,v6,v7,v8,v9,rfl,X_5,M_5,hb5⟩;have S_5:=S_4.keep hb5;have F_5:=F_4.keep hb5;have AB_5:=AB_4.keep hb5;have W_5:=W_4.keep hb5;have R_5:=R_4.keep hb5;have WB_5:=WB_4.keep hb5;have hbw5:=bSz hbw4 hb5;clear S_4 F_4 AB_4 W_4 R_4 WB_4 hbw4 hb5;have hbx6:Below w5.heap.size w5 (w5.alloc (.cells (sc s1.t.k s1.t.n (.slice v0 s1.t.len v1) (.slice v2 s1.K.length v3) (.slice v4 s1.f.length v5) (.slice v6 s1.d.length v7)) 30)):=bAz (Below.refl _ _) _;have XB_6:Bk (w5.alloc (.cells (sc s1.t.k s1.t.n (.slice v0 s1.t.len v1) (.slice v2 s1.K.length v3) (.slice v4 s1.f.length v5) (.slice v6 s1.d.length v7)) 30)) w5.heap.size (sc s1.t.k s1.t.n (.slice v0 s1.t.len v1) (.slice v2 s1.K.length v3) (.slice v4 s1.f.length v5) (.slice v6 s1.d.length v7)) 30:=Bk.new _ _ rfl;have S_6:=S_5.keep hbx6;have F_6:=F_5.keep hbx6;have AB_6:=AB_5.keep hbx6;have W_6:=W_5.keep hbx6;have R_6:=R_5.keep hbx6;have WB_6:=WB_5.keep hbx6;have X_6:=X_5.keep hbx6;have M_6:=M_5.keep hbx6;have hbw6:=bSz hbw5 hbx6;clear S_5 F_5 AB_5 W_5 R_5 WB_5 X_5 M_5 hbw5 hbx6;obtain ⟨y00_6,y01_6,y02_6,y03_6,y04_6,y05_6⟩:=AB_6.six;obtain ⟨y10_6,y11_6,y12_6,y13_6,y14_6,y15_6⟩:=WB_6.six;obtain ⟨y20_6,y21_6,y22_6,y23_6,y24_6,y25_6⟩:=XB_6.six;go_wp2_with fail;clear y00_6 y01_6 y02_6 y03_6 y04_6 y05_6 y10_6 y11_6 y12_6 y13_6 y14_6 y15_6 y20_6 y21_6 y22_6 y23_6 y24_6 y25_6;refine (lwRows_eq (selfR _) M_6 R_6).mono ?_;rintro e w7 ⟨rfl,hb7⟩;have S_7:=S_6.keep hb7;have F_7:=F_6.keep hb7;have AB_7:=AB_6.keep hb7;have W_7:=W_6.keep hb7;have R_7:=R_6.keep hb7;have WB_7:=WB_6.keep hb7;have X_7:=X_6.keep hb7;have M_7:=M_6.keep hb7;have XB_7:=XB_6.keep hb7;have hbw7:=bSz hbw6 hb7;clear S_6 F_6 AB_6 W_6 R_6 WB_6 X_6 M_6 XB_6 hbw6 hb7;obtain ⟨hbk,hcv⟩:bokB m1=true/\∀ q∈m1,covB s.f q.1.2.1 q.1.2.2=true/\covB f q.1.2.1 q.1.2.2=false:=by
   obtain ⟨r,h,hf,hcv,rfl,rfl⟩:=onS_some.1 HON.out;obtain ⟨h1,h2,h3⟩:=allS_some.1 h;exact ⟨more_bok (flowR_bok h2),fun q hq=>more_new hq⟩
  have HBK:=(show Hid (bokB m1=true) from hbk);have HCV:=(show Hid _ from hcv);clear hbk hcv;clear WB_7 W_7 R_7;have HC:Hid (∀ V:World,Below w7.heap.size w7 V->V.cell? ⟨w1.heap.size,4,none⟩=some (.slice a4 s.f.length a5)/\Ts V (.slice a4 s.f.length a5) s.f/\Ts V (.slice f0 f.length f1) f/\Rs V (.slice v8 m1.length v9) m1):=fun V hV=>⟨(AB_7.keep hV).six.2.2.2.2.1,(S_7.keep hV).ts,F_7.keep hV,M_7.keep hV⟩;clear AB_7 XB_7 S_7 M_7 X_7 F_7;go_wp2_with fail;generalize w7=WW at *
  go_loopw [11] (fun i wr=>∃ k:Nat,k<=m1.length/\i= .int .i64 k/\Below WW.heap.size WW wr) (fun i _=>m1.length-(intOf i).toNat)
  case atStart=>exact ⟨0,by omega,rfl,Below.refl _ _⟩
  obtain ⟨k,hkl,rfl,hb⟩:=hrel
  by_cases hlt:k<m1.length
  ·obtain ⟨qa,qc,qe,-,-,hml,hrow⟩:=Rs.open (HC.out _ hb).2.2.2;obtain ⟨rfl,-,rfl⟩:=Value.slice.inj qe;obtain ⟨g,off,K,V0,X,Y,D,rfl,-,hmem,-,-,r2,r3,-⟩:=hrow k hlt;have HQ:=HCV.out _ (List.mem_of_getElem? hmem);have HQ1:Hid (covB s.f X Y=true):=HQ.1;have HQ2:Hid (covB f X Y=false):=HQ.2;have ik:(k:Int)<(m1.length:Int):=by omega
   have HX:Hid (∀ V,Below wr.heap.size wr V->V.cell? ⟨w1.heap.size,4,none⟩=some (.slice a4 s.f.length a5)/\V.cell? ⟨g,off+k*5+2,none⟩=some (.int .i64 X)/\V.cell? ⟨g,off+k*5+3,none⟩=some (.int .i64 Y)) :=
    fun V hV=>⟨(HC.out V (bSz hb hV)).1,cB hV r2,cB hV r3⟩
   have hbD:Below wr.heap.size wr wr.drew:=(Below.refl _ _).drew;have HT1:Hid (Ts wr.drew (.slice a4 s.f.length a5) s.f):=(HC.out _ hb.drew).2.1;have HT2:Hid (∀ V,Below wr.heap.size wr V->Ts V (.slice f0 f.length f1) f):=fun V hV=>(HC.out V (bSz hb hV)).2.2.1;clear hrow qe HQ r2 r3 hmem;go_wp2_with fail
   go_region_held3 (fun V=>V.cell? ⟨w1.heap.size,4,none⟩=some (.slice a4 s.f.length a5)/\V.cell? ⟨g,off+k*5+2,none⟩=some (.int .i64 X)/\V.cell? ⟨g,off+k*5+3,none⟩=some (.int .i64 Y))
    (first|exact HX.out _ hbD|exact HX.out _ hba|exact HX.out _ hbb)
    (first
     | (go_at_call 29;with_reducible refine (implCov_eq HQ1.out HT1.out).mono ?_;rintro e wa ⟨rfl,hba0⟩;have hba:Below wr.heap.size wr wa:=bSz hbD hba0)
     | (go_at_call 29;refine (implCov_eq HQ2.out (HT2.out _ hba)).mono ?_;rintro e wb ⟨rfl,hbb0⟩;have hbb:Below wr.heap.size wr wb:=bSz hba hbb0))
   all_goals
    have hbn:=bSz hb hbb;clear hb;go_wp2_with fail;go_roundw
    case rel=>exact ⟨k+1,by omega,by go_num,hbn⟩
    case measure=>simp [intOf];omega
  obtain rfl:k=m1.length:=by omega
  have RM:=(HC.out _ hb).2.2.2;go_wp2_with fail;refine (implBatchOk_eq HBK.out RM).mono ?_;rintro e wz ⟨rfl,hbz⟩;have hbf:=bSz (bSz hbw7 hb) hbz;go_wp2_with fail;go_ret;exact ⟨rfl,hbf⟩
end FnSessOnNew
set_option maxRecDepth 100000
set_option maxHeartbeats 4000000
open Go.ChangeShapes Go.WideShapes Go.Extern.Stop Go.Stop Go.Extern
namespace RowFnSessOnNew
theorem own:ownKnob Tryz.prog.godebug=none:=by kernel_rfl
theorem gO:Tryz.prog.globalNamed "loop.example/tideline/impl.errCannotBe" = some 0:=by kernel_rfl
theorem gOType:(Tryz.prog.globals[0]?).map (·.type)=some 163:=by kernel_rfl
theorem cellsE:Tryz.prog.cellsOf 362=1:=by kernel_rfl
theorem cellsS:Tryz.prog.cellsOf 9=1:=by kernel_rfl
theorem star : "*" ++ "errors.errorString" = "*errors.errorString" := by decide
theorem rowE (u:TypeId) (h:Tryz.prog.typeName? 3 u=some "*errors.errorString"):u=327 :=
 typeName_ptr_named (nm := "errors.errorString") (by rw [star];kernel_rfl) (by kernel_rfl) (by decide) u (by rw [star];exact h)
abbrev textB:ByteArray:={ data:=#[99,97,110,110,111,116,32,98,101] }
noncomputable def low:Nat:=(World.holding Tryz.prog default ⟨#[],#[],[]⟩).heap.size
noncomputable def laidWorld (os:Os):World :=
 let w0:=World.holding Tryz.prog os ⟨#[.cells #[.string textB] 362],#[],[]⟩
 { w0 with heap:=w0.heap.modify 0 fun
   | .cells _ t frozen=> .cells #[.iface 327 (.pointer (some ⟨low,0,none⟩))] t frozen
   | o=>o }
theorem laid_met (os:Os) (args:Array Value):laidMetH Tryz.prog Rows.fnSessOnNewRow.laid ((laidWorld os).forCall (fun _ _=>0) ⟨#[],args,[]⟩).memory :=
 laidMet_of_run (ps:=[.cell 0 0, .cell low 0]) 8 (by kernel_rfl) (by kernel_rfl) (by kernel_rfl)
theorem lifted (os:Os) (started:os.Started) (H:Type) (enc:TypeId×Value->H) :
  ReturnsInHanded {} Tryz.checked os 5 .any (fun w args=>(Rows.fnSessOnNewSpec.pre enc Tryz.prog Tryz.f5 [] false w args/\laidMetH Tryz.prog Rows.fnSessOnNewRow.laid w)/\sizedMet enc Tryz.prog Tryz.f5 (OpenSpec.ofChange Rows.fnSessOnNewSpec) false w args)
   (Rows.fnSessOnNewSpec.post enc Tryz.prog Tryz.f5 false true false false):=by
 refine returnsInHanded_of_change_and (C:=Tryz.checked) (X:=fun w _=>laidMetH Tryz.prog Rows.fnSessOnNewRow.laid w) (fun _ _ _ hh h=>h.of_heap hh) own started (by kernel_rfl) Tryz.func5
  (ChangeSpec.witness_at (enc:=enc) (C:=Tryz.checked) (os:=os) (X:=fun w _=>laidMetH Tryz.prog Rows.fnSessOnNewRow.laid w) false (laidWorld os) #[.slice none 0 0] 8 rfl (by kernel_rfl) (by kernel_rfl) (by kernel_rfl) (by kernel_rfl) (by kernel_rfl) (laid_met os _)) ?_
 intro W base args ds gs before hval0 hW _ _ hL _;have hval:∀ (j:Nat) t v,Tryz.f5.params[j]?=some t->args[j]?=some v->Value.okWide Tryz.prog W .any base t v:=hval0;have hW':=hW;obtain ⟨p,q,hA0,hV0,rfl,hfz,hnd⟩:=hW;have hA:DataW.TrodAll enc Tryz.prog W 0 (fun _=>true) true Tryz.f5.params.toList args.toList ds p:=hA0;have hV:DataW.TrodVars enc Tryz.prog W (fun _=>true) ["loop.example/tideline/impl.errCannotBe"] gs q:=hV0;rw [Tryz.params5] at hA hval;obtain ⟨v0,vs0,d0,ds0,p0,q0,hargs,rfl,rfl,h0,r0⟩:=trodAll_cons hA;obtain ⟨rfl,rfl,rfl⟩:=trodAll_nil r0;obtain rfl:args=#[v0]:=by cases args;simp_all
 obtain ⟨a1,s1,hv1,hc1,hs1,hz1⟩:=laid_sentinel (show laidMet Tryz.prog Rows.fnSessOnNewRow.laid W from hL) gO gOType Tryz.underlying163 rowE Tryz.underlying327 Tryz.underlying362 rfl rfl Tryz.underlying9 cellsE cellsS;obtain ⟨rfl,rfl⟩:=hV.unique (vars_read1 enc gO gOType Tryz.underlying163 hv1 trivial _);have hg1:W.cell? ⟨0,0,none⟩=some (erV a1):=by simpa using World.var?_cell gO hv1 0
 obtain ⟨b0,len0,cap0,rfl⟩:=okWide_slice Tryz.underlying22 (hval 0 22 v0 rfl rfl);have k0:=h0;have lt0:∀ x∈p0,x.block<W.heap.size:=by obtain ⟨m,hm⟩:=k0;exact DataW.trod_lt m _ _ _ hm
 have w0:Src W (.slice b0 len0 cap0) len0:=by
  obtain ⟨fuel,hf⟩:=h0
  rcases open_ints Tryz.underlying22 Tryz.underlying5 (by kernel_rfl) hf with ⟨hcs,_⟩|⟨x,l,c,zs,hcs,_,hl,hm,hz,_,hcell,hwz⟩
  ·simp [Value.cells] at hcs;obtain ⟨rfl,rfl,rfl⟩:=hcs;exact Src.nil _
  ·simp [Value.cells] at hcs;obtain ⟨rfl,rfl,rfl⟩:=hcs;exact Src.of_row hl hm (by simpa using hz) hcell hwz
 clear hA0 hval0;refine (FnSessOnNew.walk a1 b0 len0 cap0 W w0 hg1).mono fun e W' ⟨he,bel⟩=>?_;subst he;have hv2:W'.var? Tryz.prog "loop.example/tideline/impl.errCannotBe" = some #[erV a1]:=by
  have h00:W'.heap[0]?=W.heap[0]?:=bel.block 0 (lC hg1);unfold World.var? at hv1 ⊢;rw [gO] at hv1 ⊢;simp only [Option.bind_some,h00] at hv1 ⊢;exact hv1
 exact ⟨_,rfl,_,_,_,[],_,[.cell 0 0],hW',trodAll_mk1 (shut_bool Tryz.underlying4 _),(trodAll_cons_mk (Below.trod pfLaid (by kernel_rfl) (of_decide_eq_true (by kernel_rfl)) k0 bel lt0) trodAll_mk0),vars_read1 enc gO gOType Tryz.underlying163 hv2 trivial _,bel.frame _,fun h=>by cases h⟩
theorem closed:joinedFacts Tryz.prog 5 Tryz.f5 Rows.fnSessOnNewSpec Rows.fnSessOnNewRow=true:=by
 unfold joinedFacts;exact (andB (andB (andB (andB (andB (andB (andB (andB (andB (andB (andB (andB (andB (andB (andB (andB (andB (andB (andB (andB (andB (andB (andB (andB (andB (andB (andB (andB (andB (andB (andB (by as_aux_lemma=>kernel_rfl) pfLaid) pfRowed) (by as_aux_lemma=>kernel_rfl)) (by as_aux_lemma=>kernel_rfl)) (by as_aux_lemma=>kernel_rfl)) (by as_aux_lemma=>kernel_rfl)) (by as_aux_lemma=>kernel_rfl)) (by as_aux_lemma=>kernel_rfl)) (by as_aux_lemma=>kernel_rfl)) (by as_aux_lemma=>kernel_rfl)) (by as_aux_lemma=>kernel_rfl)) (by as_aux_lemma=>kernel_rfl)) (by as_aux_lemma=>kernel_rfl)) (by as_aux_lemma=>kernel_rfl)) (by as_aux_lemma=>kernel_rfl)) (by as_aux_lemma=>kernel_rfl)) (by as_aux_lemma=>kernel_rfl)) (by as_aux_lemma=>kernel_rfl)) (by as_aux_lemma=>kernel_rfl)) (by as_aux_lemma=>kernel_rfl)) (by as_aux_lemma=>kernel_rfl)) (by as_aux_lemma=>kernel_rfl)) (by as_aux_lemma=>kernel_rfl)) pfHeard) pfEnter) (pfLiftB rfl)) (pfMakeB rfl)) (by as_aux_lemma=>kernel_rfl)) (by as_aux_lemma=>kernel_rfl)) (by as_aux_lemma=>kernel_rfl)) (by as_aux_lemma=>kernel_rfl))
theorem over:Rows.fnSessOnNewRow.holds Tryz.pinned (OpenSpec.ofChange Rows.fnSessOnNewSpec) :=
 OpenClaim.holds_of_wide 5 Tryz.f5 rfl rfl rfl rfl rfl rfl rfl ⟨rfl,rfl,rfl,rfl,rfl⟩ rfl rfl rfl rfl rfl (by kernel_rfl) Tryz.func5 closed
  (of_decide_eq_true (by kernel_rfl)) (by unfold Func.isWrapper;first|(rw [if_pos (by decide +kernel)];kernel_rfl)|(rw [if_neg (by decide +kernel)];exact ⟨rfl,rfl⟩))
  (fun os started H enc _=>lifted os started H enc)
end RowFnSessOnNew
theorem fnSessOnNew_card:Rows.FnSessOnNewCardSaid :=
 Claim7.holds_tied_plain_at .later [] [.sentinel] true Rows.fnSessOnNewCard.stood.harness true
  RowFnSessOnNew.over (fun _ h=>by cases h) (by kernel_rfl) (fun _ h=>by cases h) fnSessOnNew_row_tie rfl ⟨rfl,rfl⟩ (pfMain.trans (by kernel_rfl)) rfl
  (fun f fn hf hfn=>by
   obtain rfl:f=5:=Option.some.inj ((show Tryz.prog.funcNamed "loop.example/tideline/laws.FnSessOnNew" = some 5 by kernel_rfl).symm.trans hf) |>.symm
   obtain rfl:fn=Tryz.f5:=(Option.some.inj (Tryz.func5.symm.trans hfn)).symm;exact ⟨pfLooks,fun j t ht=>by
    rw [Tryz.params5] at ht;have h3:t=22:=by
     rcases j with _|j
     ·simpa using ht.symm
     ·simp at ht
    subst h3;exact (show Tryz.prog.wantsStandIn 22=false by kernel_rfl)⟩)
  (by kernel_rfl)
end Go.Proofs.YtbdpcngcbnoioaaGreatDoor
