/- Closed facts on the program that the rows' frames lean on, each asked once. -/
import Derived.Test.YtjkojbafifbdgaaGp1
import Derived.Test.YtjkojbafifbdgaaPfd
namespace Go.Proofs.Ytjkojbafifbdgaa
theorem andB {a b : Bool} (h : a = true) (k : b = true) : (a && b) = true := by rw [h, k]; rfl
theorem pfLiftB {x : Bool} (h : x = false) : (x == Try.prog.liftsFinal) = true := by rw [pfLift, h]; rfl
theorem pfMakeB {x : Make} (h : x = .cut) : (Try.prog.make == some x) = true := by rw [pfMake, h]; decide
end Go.Proofs.Ytjkojbafifbdgaa
