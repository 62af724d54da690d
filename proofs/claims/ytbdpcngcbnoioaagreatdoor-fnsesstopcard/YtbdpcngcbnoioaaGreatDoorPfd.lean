/- The program's first words, sign by sign, and closed facts on them that the rows' frames lean on. -/
import Derived.Test.YtbdpcngcbnoioaaGreatDoorRows
import Derived.JoinedOf
import Derived.KernelRfl
import Derived.Test.YtbdpcngcbnoioaaGreatDoorPfe
namespace Go.Proofs.YtbdpcngcbnoioaaGreatDoor
set_option maxRecDepth 100000
def wA : List Char := [Char.ofNat 104, Char.ofNat 97, Char.ofNat 114, Char.ofNat 110, Char.ofNat 101, Char.ofNat 115, Char.ofNat 115]
def wB : List Char := [Char.ofNat 98, Char.ofNat 49, Char.ofNat 100, Char.ofNat 50, Char.ofNat 100, Char.ofNat 102, Char.ofNat 51, Char.ofNat 97, Char.ofNat 52, Char.ofNat 100, Char.ofNat 102, Char.ofNat 57, Char.ofNat 50, Char.ofNat 55, Char.ofNat 100, Char.ofNat 99, Char.ofNat 97, Char.ofNat 101, Char.ofNat 54, Char.ofNat 102, Char.ofNat 99, Char.ofNat 98, Char.ofNat 100, Char.ofNat 53, Char.ofNat 52, Char.ofNat 56, Char.ofNat 51, Char.ofNat 57, Char.ofNat 97, Char.ofNat 49, Char.ofNat 98, Char.ofNat 53, Char.ofNat 51, Char.ofNat 98, Char.ofNat 102, Char.ofNat 51, Char.ofNat 53, Char.ofNat 52, Char.ofNat 57, Char.ofNat 102, Char.ofNat 56, Char.ofNat 102, Char.ofNat 101, Char.ofNat 54, Char.ofNat 100, Char.ofNat 53, Char.ofNat 100, Char.ofNat 54, Char.ofNat 57, Char.ofNat 55, Char.ofNat 54, Char.ofNat 99, Char.ofNat 49, Char.ofNat 50, Char.ofNat 98, Char.ofNat 98, Char.ofNat 101, Char.ofNat 55, Char.ofNat 99, Char.ofNat 53, Char.ofNat 102, Char.ofNat 54, Char.ofNat 98, Char.ofNat 100]
def wCq : List Char := [Char.ofNat 99, Char.ofNat 117, Char.ofNat 116]
def initR : List Char := [
  Char.ofNat 97, Char.ofNat 116, Char.ofNat 32, Char.ofNat 108, Char.ofNat 111, Char.ofNat 111, Char.ofNat 112, Char.ofNat 46, Char.ofNat 101, Char.ofNat 120, Char.ofNat 97, Char.ofNat 109, Char.ofNat 112, Char.ofNat 108, Char.ofNat 101, Char.ofNat 47, Char.ofNat 116, Char.ofNat 105, Char.ofNat 100, Char.ofNat 101, Char.ofNat 108, Char.ofNat 105, Char.ofNat 110, Char.ofNat 101, Char.ofNat 47, Char.ofNat 108, Char.ofNat 97, Char.ofNat 119, Char.ofNat 115, Char.ofNat 46, Char.ofNat 70, Char.ofNat 110, Char.ofNat 83, Char.ofNat 101, Char.ofNat 115, Char.ofNat 115, Char.ofNat 84, Char.ofNat 111, Char.ofNat 112, Char.ofNat 32,
  Char.ofNat 108, Char.ofNat 111, Char.ofNat 111, Char.ofNat 112, Char.ofNat 46, Char.ofNat 101, Char.ofNat 120, Char.ofNat 97, Char.ofNat 109, Char.ofNat 112, Char.ofNat 108, Char.ofNat 101, Char.ofNat 47, Char.ofNat 116, Char.ofNat 105, Char.ofNat 100, Char.ofNat 101, Char.ofNat 108, Char.ofNat 105, Char.ofNat 110, Char.ofNat 101, Char.ofNat 47, Char.ofNat 108, Char.ofNat 97, Char.ofNat 119, Char.ofNat 115, Char.ofNat 46, Char.ofNat 70, Char.ofNat 110, Char.ofNat 83, Char.ofNat 101, Char.ofNat 115, Char.ofNat 115, Char.ofNat 79, Char.ofNat 110, Char.ofNat 32, Char.ofNat 108, Char.ofNat 111, Char.ofNat 111, Char.ofNat 112,
  Char.ofNat 46, Char.ofNat 101, Char.ofNat 120, Char.ofNat 97, Char.ofNat 109, Char.ofNat 112, Char.ofNat 108, Char.ofNat 101, Char.ofNat 47, Char.ofNat 116, Char.ofNat 105, Char.ofNat 100, Char.ofNat 101, Char.ofNat 108, Char.ofNat 105, Char.ofNat 110, Char.ofNat 101, Char.ofNat 47, Char.ofNat 108, Char.ofNat 97, Char.ofNat 119, Char.ofNat 115, Char.ofNat 46, Char.ofNat 70, Char.ofNat 110, Char.ofNat 83, Char.ofNat 101, Char.ofNat 115, Char.ofNat 115, Char.ofNat 79, Char.ofNat 110, Char.ofNat 78, Char.ofNat 101, Char.ofNat 119, Char.ofNat 32, Char.ofNat 108, Char.ofNat 111, Char.ofNat 111, Char.ofNat 112, Char.ofNat 46,
  Char.ofNat 101, Char.ofNat 120, Char.ofNat 97, Char.ofNat 109, Char.ofNat 112, Char.ofNat 108, Char.ofNat 101, Char.ofNat 47, Char.ofNat 116, Char.ofNat 105, Char.ofNat 100, Char.ofNat 101, Char.ofNat 108, Char.ofNat 105, Char.ofNat 110, Char.ofNat 101, Char.ofNat 47, Char.ofNat 108, Char.ofNat 97, Char.ofNat 119, Char.ofNat 115, Char.ofNat 46, Char.ofNat 70, Char.ofNat 110, Char.ofNat 83, Char.ofNat 101, Char.ofNat 115, Char.ofNat 115, Char.ofNat 83, Char.ofNat 116, Char.ofNat 101, Char.ofNat 112, Char.ofNat 115, Char.ofNat 32, Char.ofNat 108, Char.ofNat 111, Char.ofNat 111, Char.ofNat 112, Char.ofNat 46, Char.ofNat 101,
  Char.ofNat 120, Char.ofNat 97, Char.ofNat 109, Char.ofNat 112, Char.ofNat 108, Char.ofNat 101, Char.ofNat 47, Char.ofNat 116, Char.ofNat 105, Char.ofNat 100, Char.ofNat 101, Char.ofNat 108, Char.ofNat 105, Char.ofNat 110, Char.ofNat 101, Char.ofNat 47, Char.ofNat 108, Char.ofNat 97, Char.ofNat 119, Char.ofNat 115, Char.ofNat 46, Char.ofNat 70, Char.ofNat 110, Char.ofNat 83, Char.ofNat 101, Char.ofNat 115, Char.ofNat 115, Char.ofNat 69, Char.ofNat 110, Char.ofNat 100, Char.ofNat 32, Char.ofNat 108, Char.ofNat 111, Char.ofNat 111, Char.ofNat 112, Char.ofNat 46, Char.ofNat 101, Char.ofNat 120, Char.ofNat 97, Char.ofNat 109,
  Char.ofNat 112, Char.ofNat 108, Char.ofNat 101, Char.ofNat 47, Char.ofNat 116, Char.ofNat 105, Char.ofNat 100, Char.ofNat 101, Char.ofNat 108, Char.ofNat 105, Char.ofNat 110, Char.ofNat 101, Char.ofNat 47, Char.ofNat 108, Char.ofNat 97, Char.ofNat 119, Char.ofNat 115, Char.ofNat 46, Char.ofNat 70, Char.ofNat 110, Char.ofNat 83, Char.ofNat 101, Char.ofNat 115, Char.ofNat 115, Char.ofNat 78, Char.ofNat 101, Char.ofNat 119, Char.ofNat 32, Char.ofNat 108, Char.ofNat 111, Char.ofNat 111, Char.ofNat 112, Char.ofNat 46, Char.ofNat 101, Char.ofNat 120, Char.ofNat 97, Char.ofNat 109, Char.ofNat 112, Char.ofNat 108, Char.ofNat 101,
  Char.ofNat 47, Char.ofNat 116, Char.ofNat 105, Char.ofNat 100, Char.ofNat 101, Char.ofNat 108, Char.ofNat 105, Char.ofNat 110, Char.ofNat 101, Char.ofNat 47, Char.ofNat 108, Char.ofNat 97, Char.ofNat 119, Char.ofNat 115, Char.ofNat 46, Char.ofNat 70, Char.ofNat 110, Char.ofNat 83, Char.ofNat 101, Char.ofNat 115, Char.ofNat 115, Char.ofNat 78, Char.ofNat 111, Char.ofNat 116, Char.ofNat 32, Char.ofNat 108, Char.ofNat 111, Char.ofNat 111, Char.ofNat 112, Char.ofNat 46, Char.ofNat 101, Char.ofNat 120, Char.ofNat 97, Char.ofNat 109, Char.ofNat 112, Char.ofNat 108, Char.ofNat 101, Char.ofNat 47, Char.ofNat 116, Char.ofNat 105,
  Char.ofNat 100, Char.ofNat 101, Char.ofNat 108, Char.ofNat 105, Char.ofNat 110, Char.ofNat 101, Char.ofNat 47, Char.ofNat 108, Char.ofNat 97, Char.ofNat 119, Char.ofNat 115, Char.ofNat 46, Char.ofNat 70, Char.ofNat 110, Char.ofNat 83, Char.ofNat 101, Char.ofNat 115, Char.ofNat 115, Char.ofNat 66, Char.ofNat 97, Char.ofNat 99, Char.ofNat 107, Char.ofNat 32, Char.ofNat 108, Char.ofNat 111, Char.ofNat 111, Char.ofNat 112, Char.ofNat 46, Char.ofNat 101, Char.ofNat 120, Char.ofNat 97, Char.ofNat 109, Char.ofNat 112, Char.ofNat 108, Char.ofNat 101, Char.ofNat 47, Char.ofNat 116, Char.ofNat 105, Char.ofNat 100, Char.ofNat 101,
  Char.ofNat 108, Char.ofNat 105, Char.ofNat 110, Char.ofNat 101, Char.ofNat 47, Char.ofNat 108, Char.ofNat 97, Char.ofNat 119, Char.ofNat 115, Char.ofNat 46, Char.ofNat 70, Char.ofNat 110, Char.ofNat 69, Char.ofNat 120, Char.ofNat 97, Char.ofNat 99, Char.ofNat 116, Char.ofNat 83, Char.ofNat 101, Char.ofNat 115, Char.ofNat 115, Char.ofNat 79, Char.ofNat 107, Char.ofNat 32, Char.ofNat 108, Char.ofNat 111, Char.ofNat 111, Char.ofNat 112, Char.ofNat 46, Char.ofNat 101, Char.ofNat 120, Char.ofNat 97, Char.ofNat 109, Char.ofNat 112, Char.ofNat 108, Char.ofNat 101, Char.ofNat 47, Char.ofNat 116, Char.ofNat 105, Char.ofNat 100,
  Char.ofNat 101, Char.ofNat 108, Char.ofNat 105, Char.ofNat 110, Char.ofNat 101, Char.ofNat 47, Char.ofNat 108, Char.ofNat 97, Char.ofNat 119, Char.ofNat 115, Char.ofNat 46, Char.ofNat 70, Char.ofNat 110, Char.ofNat 69, Char.ofNat 120, Char.ofNat 97, Char.ofNat 99, Char.ofNat 116, Char.ofNat 83, Char.ofNat 101, Char.ofNat 115, Char.ofNat 115, Char.ofNat 79, Char.ofNat 110, Char.ofNat 32, Char.ofNat 108, Char.ofNat 111, Char.ofNat 111, Char.ofNat 112, Char.ofNat 46, Char.ofNat 101, Char.ofNat 120, Char.ofNat 97, Char.ofNat 109, Char.ofNat 112, Char.ofNat 108, Char.ofNat 101, Char.ofNat 47, Char.ofNat 116, Char.ofNat 105,
  Char.ofNat 100, Char.ofNat 101, Char.ofNat 108, Char.ofNat 105, Char.ofNat 110, Char.ofNat 101, Char.ofNat 47, Char.ofNat 108, Char.ofNat 97, Char.ofNat 119, Char.ofNat 115, Char.ofNat 46, Char.ofNat 70, Char.ofNat 110, Char.ofNat 69, Char.ofNat 120, Char.ofNat 97, Char.ofNat 99, Char.ofNat 116, Char.ofNat 83, Char.ofNat 101, Char.ofNat 115, Char.ofNat 115, Char.ofNat 65, Char.ofNat 116]
theorem words_cons (a b : List Char) (h : a.all (fun c => !(c == Char.ofNat 32)) = true) : wordsSigns (a ++ Char.ofNat 32 :: b) = a :: wordsSigns b := by
  induction a with
  | nil => rfl
  | cons c a ih =>
    simp only [List.all_cons, Bool.and_eq_true] at h
    have hc : c ≠ Char.ofNat 32 := by simpa using h.1
    rw [List.cons_append]
    rw [wordsSigns.eq_3 c (a ++ Char.ofNat 32 :: b) (fun e => hc e), ih h.2]
theorem init_is : Tryz.prog.initOrder = String.ofList (wA ++ Char.ofNat 32 :: (wB ++ Char.ofNat 32 :: (wCq ++ Char.ofNat 32 :: initR))) := by kernel_rfl
theorem words_of {P : Program} {a b c r : List Char} (h : P.initOrder = String.ofList (a ++ Char.ofNat 32 :: (b ++ Char.ofNat 32 :: (c ++ Char.ofNat 32 :: r)))) (ha : a.all (fun c => !(c == Char.ofNat 32)) = true) (hb : b.all (fun c => !(c == Char.ofNat 32)) = true) (hc : c.all (fun c => !(c == Char.ofNat 32)) = true)
    (hw : ((a == "harness".toList || a == "ownmain".toList) && isSumSigns b) = true) : behindMainWord (wordsSigns P.initOrder.toList) = c :: wordsSigns r := by
  rw [h, String.toList_ofList, words_cons a _ ha, words_cons b _ hb, words_cons c _ hc, behindMainWord, if_pos hw]
theorem strip_of {c : List Char} (r : List (List Char)) : ∀ os : List String, os.all (fun o => !(c == o.toList)) = true → stripLifts os (c :: r) = ([], c :: r) := by
  intro os
  induction os with
  | nil => intro _; rfl
  | cons o os ih =>
    intro h
    simp only [List.all_cons, Bool.and_eq_true] at h
    have hc : (c == o.toList) = false := by simpa using h.1
    rw [stripLifts, hc]
    exact ih h.2
theorem heads_of {P : Program} {c : List Char} {r : List (List Char)} (h : behindMainWord (wordsSigns P.initOrder.toList) = c :: r) (hc : liftWords.all (fun o => !(c == o.toList)) = true) : P.headLifts = [] := by
  unfold Program.headLifts
  rw [h, strip_of r _ hc]
  dsimp only
  split <;> rfl
theorem lift_of {P : Program} {c : List Char} {r : List (List Char)} (h : behindMainWord (wordsSigns P.initOrder.toList) = c :: r) (hc : liftWords.all (fun o => !(c == o.toList)) = true) (hn : (c == "carried".toList) = false) : P.liftsFinal = false := by
  unfold Program.liftsFinal
  rw [h, heads_of h hc]
  have e : ((c :: r).head? == some "carried".toList) = false := hn
  simp only [e, Bool.false_and, Bool.false_or]
  rfl
theorem make_of {P : Program} {c : List Char} {r : List (List Char)} (h : behindMainWord (wordsSigns P.initOrder.toList) = c :: r) (h1 : (c == "gc".toList || c == "spec".toList) = false) (h2 : (c == "cut".toList) = true) : P.make = some .cut := by
  unfold Program.make
  rw [h]
  simp only [h1, h2, Bool.true_or, if_true, Bool.false_eq_true, if_false]
theorem enter_of {P : Program} {c : List Char} {r : List (List Char)} (h : behindMainWord (wordsSigns P.initOrder.toList) = c :: r) (hc : liftWords.all (fun o => !(c == o.toList)) = true) (h2 : (c == "cut".toList) = true) (p1 : P.laysLater = false) (p2 : P.bearsReflect = false) (p3 : P.doorFits [] = true) : P.mayEnter = true := by
  unfold Program.mayEnter
  rw [h]
  have e : ((c :: r).head? == some "cut".toList) = true := h2
  simp only [strip_of r _ hc, p1, p2, p3, e]
  simp
theorem init_behind : behindMainWord (wordsSigns Tryz.prog.initOrder.toList) = wCq :: wordsSigns initR := words_of init_is (by decide +kernel) (by decide +kernel) (by decide +kernel) (by decide +kernel)
theorem pfLift : Tryz.prog.liftsFinal = false := lift_of init_behind (by decide +kernel) (by decide +kernel)
theorem pfMake : Tryz.prog.make = some .cut := make_of init_behind (by decide +kernel) (by decide +kernel)
theorem pfEnter : Tryz.prog.mayEnter = true := enter_of init_behind (by decide +kernel) (by decide +kernel) pfLater pfReflect pfDoor
end Go.Proofs.YtbdpcngcbnoioaaGreatDoor
