import Derived.Test.YtbdpcngcbnoioaaGreatDoorPfd
import Derived.Test.YtbdpcngcbnoioaaGreatDoorCards
import Derived.SevenTiedAt
namespace Go.Proofs.YtbdpcngcbnoioaaGreatDoor
theorem Nr:Tryz.prog.mainIs=some (true,wB):=by
 unfold Program.mainIs;rw[init_is,String.toList_ofList,words_cons wA _ (by decide +kernel),words_cons wB _ (by decide +kernel)];have h1:(!isSumSigns wB)=false:=by decide +kernel
 have h2:(wA == "harness".toList)=true:=by decide +kernel
 simp only[h1,h2,if_true,Bool.false_eq_true,if_false]
theorem MC:true=Tryz.prog.looks []:=by kernel_rfl
end Go.Proofs.YtbdpcngcbnoioaaGreatDoor
