/- A region that draws its order, by what each state of it keeps to: the law. -/
import Derived.Test.YtbmdfmboabfceaaBase
import Derived.Orders
namespace Go.Proofs.Ytbmdfmboabfceaa
open Go.RowKit

/-- How many have not come up yet. -/
def unN (L : Array Bool) : Nat := L.toList.countP (fun b => !b)
theorem unN_set {L : Array Bool} {i : Nat} (h : L[i]? = some false) : unN (L.setIfInBounds i true) + 1 = unN L := by
  obtain ⟨l⟩ := L
  simp only [unN, List.setIfInBounds_toArray]
  simp only [List.getElem?_toArray] at h
  induction l generalizing i with
  | nil => simp at h
  | cons b l ih =>
    cases i with
    | zero => simp at h; subst h; simp
    | succ i =>
      have := ih (i := i) (by simpa using h)
      simp only [List.set_cons_succ, List.countP_cons]
      omega
theorem unN_pos {L : Array Bool} {i : Nat} (h : L[i]? = some false) : 0 < unN L := by have := unN_set h; omega
theorem wpAny_inv {P : Program} {md : Region.Mode} {ops : Array Oper} {Q : Exit → Act → World → Prop} (Inv : Array Bool → Act → World → Prop)
    (hg : ∀ (i : Nat) (o : Oper), ops[i]? = some o → o.guard = none)
    (hs : ∀ L a w, Inv L a w → L.size = ops.size)
    (hstep : ∀ L a w (i : Nat) (o : Oper), Inv L a w → i ∈ Region.ready md ops L → ops[i]? = some o → o.wp P a w (fun a' w' => Inv (L.setIfInBounds i true) a' w') Q)
    (hend : ∀ L a w, Inv L a w → Region.ready md ops L = [] → Q .normal a w) :
    ∀ (fuel : Nat) (L : Array Bool) (a : Act) (w : World), unN L ≤ fuel → Inv L a w → wpAny P md ops Q fuel L a w := by
  have hun : ∀ L a w i, Inv L a w → i ∈ Region.ready md ops L → L[i]? = some false := fun L a w i hI hi => by
    obtain ⟨h1, o, ho, _⟩ := mem_ready.1 hi
    have hlt : i < L.size := by rw [hs L a w hI]; exact (Array.getElem?_eq_some_iff.1 ho).1
    rw [Array.getElem?_eq_getElem hlt]
    simp [hlt] at h1
    rw [h1]
  intro fuel
  induction fuel with
  | zero =>
    intro L a w hu hI
    have he : Region.ready md ops L = [] := by
      cases hr : Region.ready md ops L with
      | nil => rfl
      | cons i r =>
        have := unN_pos (hun L a w i hI (by rw [hr]; simp))
        omega
    exact ⟨he, hend L a w hI he⟩
  | succ fuel ih =>
    intro L a w hu hI
    refine ⟨fun he => hend L a w hI he, fun i hi => ?_⟩
    obtain ⟨_, o, ho, _⟩ := mem_ready.1 hi
    have h1 := hstep L a w i o hI hi ho
    have hw : Region.wanted o (yielded ops a.tmps) = true := by simp [Region.wanted, hg i o ho]
    unfold wpOp
    rw [ho]
    simp only [hw, if_true]
    refine .inl (Oper.wp_mono (fun a' w' hI' => ?_) h1)
    have := unN_set (hun L a w i hI hi)
    exact ih _ a' w' (by omega) hI'
theorem unN_new (n : Nat) : unN (Array.replicate n false) = n := by
  unfold unN
  rw [Array.toList_replicate, List.countP_replicate]; simp
/-- A region that draws its order: what holds at its start is kept by each operation that may come up. -/
theorem wp_region_inv {P : Program} {ops : Array Oper} {Q : Exit → Act → World → Prop} {id : Nat} {a : Act} {w : World} (hm : P.follows .mixedOrders = true) (Inv : Array Bool → Act → World → Prop)
    (hg : ∀ (i : Nat) (o : Oper), ops[i]? = some o → o.guard = none)
    (hs : ∀ L a w, Inv L a w → L.size = ops.size)
    (h0 : Inv (Array.replicate ops.size false) a w.drew)
    (hstep : ∀ L a w (i : Nat) (o : Oper), Inv L a w → i ∈ Region.ready .any ops L → ops[i]? = some o → o.wp P a w (fun a' w' => Inv (L.setIfInBounds i true) a' w') Q)
    (hend : ∀ L a w, Inv L a w → Region.ready .any ops L = [] → Q .normal a w) : (Code.region id ops true).wp P Q a w :=
  wp_region_any hm (wpAny_inv Inv hg hs hstep hend ops.size _ _ _ (by rw [unN_new]; exact Nat.le_refl _) h0)
end Go.Proofs.Ytbmdfmboabfceaa
