/- Closed facts on the program that the rows' frames lean on, each asked once. -/
import Derived.Test.YtepegedlgjcolaaRows
import Derived.JoinedOf
import Derived.KernelRfl
namespace Go.Proofs.Ytepegedlgjcolaa
theorem andB {a b : Bool} (h : a = true) (k : b = true) : (a && b) = true := by rw [h, k]; rfl
theorem pfLaid : laidOutB Try.prog = true := by kernel_rfl
theorem pfRowed : mapsRowed Try.prog = true := by kernel_rfl
theorem pfHeard : Try.prog.stopsHeard = true := by kernel_rfl
theorem pfEnter : Try.prog.mayEnter = true := by kernel_rfl
theorem pfLift : Try.prog.liftsFinal = false := by kernel_rfl
theorem pfMake : Try.prog.make = some .cut := by kernel_rfl
theorem pfLiftB {x : Bool} (h : x = false) : (x == Try.prog.liftsFinal) = true := by rw [pfLift, h]; rfl
theorem pfMakeB {x : Make} (h : x = .cut) : (Try.prog.make == some x) = true := by rw [pfMake, h]; decide
end Go.Proofs.Ytepegedlgjcolaa
