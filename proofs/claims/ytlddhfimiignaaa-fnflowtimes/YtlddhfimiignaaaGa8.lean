/- What the drawing of fronts answers: contracts. -/
import Derived.Test.YtlddhfimiignaaaGa7
import Derived.Test.YtlddhfimiignaaaGa4
import Derived.ProofKit
import Derived.OpenShut
import Derived.ShutString
import Derived.ChangeOld
import Derived.Below
import Derived.Lib.SmallJoins
import Derived.Test.YtlddhfimiignaaaGa6
/-! What the drawing of fronts answers: contracts. -/
namespace Go.Proofs.Ytlddhfimiignaaa
open Go.RowKit
theorem frontL_len (l : List (Int × Int)) : (frontL l).length ≤ 64 := by
  unfold frontL; split
  · exact frTo_len l 64
  · simp

end Go.Proofs.Ytlddhfimiignaaa

/-! Plain facts on fronts, and contracts in the form in which the laws use them. -/
namespace Go.Proofs.Ytlddhfimiignaaa
open Go.RowKit
theorem leB_trans {a b c d e f : Int} (h : leB a b c d = true) (h' : leB c d e f = true) : leB a b e f = true := by
  simp [leB] at *; exact ⟨⟨⟨h.1.1.1, h'.1.1.2⟩, by omega⟩, by omega⟩
theorem leB_self (a b : Int) : leB a b a b = okB a b := by simp [leB]
theorem any_at {l : List (Int × Int)} {x y : Int} (h : anyB l x y = true) : ∃ k, k < l.length ∧ leB (tA l k) (tB l k) x y = true := by
  unfold anyB at h; rw [List.any_eq_true] at h
  obtain ⟨k, hk, h⟩ := h
  exact ⟨k, by simpa using hk, h⟩
theorem any_trans {l : List (Int × Int)} {x y X Y : Int} (h : anyB l x y = true) (h' : leB x y X Y = true) : anyB l X Y = true := by
  obtain ⟨k, hk, h⟩ := any_at h
  exact any_true hk (leB_trans h h')
theorem fok_ok {l : List (Int × Int)} (h : fokB l = true) {k : Nat} (hk : k < l.length) : okB (tA l k) (tB l k) = true := by
  have := fok_at h hk; simp [stepOk] at this; exact this.1
theorem any_self {l : List (Int × Int)} (h : fokB l = true) {k : Nat} (hk : k < l.length) : anyB l (tA l k) (tB l k) = true :=
  any_true hk (by rw [leB_self]; exact fok_ok h hk)
theorem ts_bel {w : World} {v : Value} {l : List (Int × Int)} (h : Ts w v l) (p : Bel w) : Ts p.ww v l := h.keep p.below
theorem implLess_eq {a b c d : Int} {r : Bool} (h : leB a b c d = r) (w : World) : Calls Try.prog 115 #[tv a b, tv c d] w fun e w' => e = .returned (.bool r) ∧ Below w.heap.size w w' := by
  rw [← h]; exact implLess_any a b c d w
end Go.Proofs.Ytlddhfimiignaaa

/-! Plain facts on moved times. -/
namespace Go.Proofs.Ytlddhfimiignaaa
open Go.RowKit
theorem okB_iff {a b : Int} : okB a b = true ↔ 0 ≤ a ∧ a ≤ 7 ∧ 0 ≤ b ∧ b ≤ 7 := by simp [okB]
theorem leB_iff {a b c d : Int} : leB a b c d = true ↔ okB a b = true ∧ okB c d = true ∧ a ≤ c ∧ b ≤ d := by simp [leB, and_assoc]
theorem jn_eq {a b c d : Int} (h : okB a b = true) (h' : okB c d = true) : jnA a b c d = max a c ∧ jnB a b c d = max b d := by simp [jnA, jnB, h, h']
theorem mt_eq {a b c d : Int} (h : okB a b = true) (h' : okB c d = true) : mtA a b c d = min a c ∧ mtB a b c d = min b d := by simp [mtA, mtB, h, h']
theorem jn_ok {a b c d : Int} (h : okB a b = true) (h' : okB c d = true) : okB (jnA a b c d) (jnB a b c d) = true := by
  obtain ⟨e1, e2⟩ := jn_eq h h'; rw [e1, e2, okB_iff]; rw [okB_iff] at h h'; omega
theorem mt_ok {a b c d : Int} (h : okB a b = true) (h' : okB c d = true) : okB (mtA a b c d) (mtB a b c d) = true := by
  obtain ⟨e1, e2⟩ := mt_eq h h'; rw [e1, e2, okB_iff]; rw [okB_iff] at h h'; omega
theorem jn_left {a b c d : Int} (h : okB a b = true) (h' : okB c d = true) : leB a b (jnA a b c d) (jnB a b c d) = true := by
  rw [leB_iff]; refine ⟨h, jn_ok h h', ?_⟩; obtain ⟨e1, e2⟩ := jn_eq h h'; rw [e1, e2]; omega
theorem jn_right {a b c d : Int} (h : okB a b = true) (h' : okB c d = true) : leB c d (jnA a b c d) (jnB a b c d) = true := by
  rw [leB_iff]; refine ⟨h', jn_ok h h', ?_⟩; obtain ⟨e1, e2⟩ := jn_eq h h'; rw [e1, e2]; omega
theorem jn_least {a b c d x y : Int} (h1 : leB a b x y = true) (h2 : leB c d x y = true) : leB (jnA a b c d) (jnB a b c d) x y = true := by
  rw [leB_iff] at h1 h2 ⊢; refine ⟨jn_ok h1.1 h2.1, h1.2.1, ?_⟩; obtain ⟨e1, e2⟩ := jn_eq h1.1 h2.1; rw [e1, e2]; omega
theorem mt_left {a b c d : Int} (h : okB a b = true) (h' : okB c d = true) : leB (mtA a b c d) (mtB a b c d) a b = true := by
  rw [leB_iff]; refine ⟨mt_ok h h', h, ?_⟩; obtain ⟨e1, e2⟩ := mt_eq h h'; rw [e1, e2]; omega
theorem mt_right {a b c d : Int} (h : okB a b = true) (h' : okB c d = true) : leB (mtA a b c d) (mtB a b c d) c d = true := by
  rw [leB_iff]; refine ⟨mt_ok h h', h', ?_⟩; obtain ⟨e1, e2⟩ := mt_eq h h'; rw [e1, e2]; omega
theorem mt_great {a b c d x y : Int} (h1 : leB x y a b = true) (h2 : leB x y c d = true) : leB x y (mtA a b c d) (mtB a b c d) = true := by
  rw [leB_iff] at h1 h2 ⊢; refine ⟨h1.1, mt_ok h1.2.1 h2.2.1, ?_⟩; obtain ⟨e1, e2⟩ := mt_eq h1.2.1 h2.2.1; rw [e1, e2]; omega
theorem leB_anti {a b c d : Int} (h : leB a b c d = true) (h' : leB c d a b = true) : a = c ∧ b = d := by
  rw [leB_iff] at h h'; omega
/-- Of an ok time and an ok list: it is ok, and not later than each join; and whatever is not later than each join is not later than it. -/
theorem mvP_facts {l : List (Int × Int)} {x y : Int} (hx : okB x y = true) (k : Nat) (hl : ∀ i, i ≤ k → okB (tA l i) (tB l i) = true) :
    okB (mvP l x y k).1 (mvP l x y k).2 = true ∧ (∀ i, i ≤ k → leB (mvP l x y k).1 (mvP l x y k).2 (jnA x y (tA l i) (tB l i)) (jnB x y (tA l i) (tB l i)) = true) ∧
    (∀ a b, (∀ i, i ≤ k → leB a b (jnA x y (tA l i) (tB l i)) (jnB x y (tA l i) (tB l i)) = true) → leB a b (mvP l x y k).1 (mvP l x y k).2 = true) := by
  induction k with
  | zero =>
    have h0 := hl 0 (Nat.le_refl _)
    refine ⟨jn_ok hx h0, fun i hi => ?_, fun a b h => h 0 (Nat.le_refl _)⟩
    obtain rfl : i = 0 := by omega
    show leB (jnA x y (tA l 0) (tB l 0)) (jnB x y (tA l 0) (tB l 0)) _ _ = true
    rw [leB_self]; exact jn_ok hx h0
  | succ k ih =>
    obtain ⟨h1, h2, h3⟩ := ih fun i hi => hl i (by omega)
    have h4 := jn_ok hx (hl (k + 1) (Nat.le_refl _))
    refine ⟨mt_ok h1 h4, fun i hi => ?_, fun a b h => mt_great (h3 a b fun i hi => h i (by omega)) (h (k + 1) (Nat.le_refl _))⟩
    by_cases e : i = k + 1
    · subst e; exact mt_right h1 h4
    · exact leB_trans (mt_left h1 h4) (h2 i (by omega))
/-- The same of FrontMove's answer, for a front that is not empty. -/
theorem move_facts {l : List (Int × Int)} {x y m1 m2 : Int} (hf : fokB l = true) (hx : okB x y = true) (hm : moveV l x y = (m1, m2)) (hl : l.length ≠ 0) :
    okB m1 m2 = true ∧ (∀ i, i < l.length → leB m1 m2 (jnA x y (tA l i) (tB l i)) (jnB x y (tA l i) (tB l i)) = true) ∧
    (∀ a b, (∀ i, i < l.length → leB a b (jnA x y (tA l i) (tB l i)) (jnB x y (tA l i) (tB l i)) = true) → leB a b m1 m2 = true) := by
  have e : moveV l x y = mvP l x y (l.length - 1) := by unfold moveV; rw [hf, hx, if_pos (by rfl), if_neg hl]
  rw [e] at hm
  obtain ⟨h1, h2, h3⟩ := mvP_facts hx (l.length - 1) fun i hi => fok_ok hf (by omega)
  rw [hm] at h1 h2 h3
  exact ⟨h1, fun i hi => h2 i (by omega), fun a b h => h3 a b fun i hi => h i (by omega)⟩
theorem move_empty {l : List (Int × Int)} {x y m1 m2 : Int} (hf : fokB l = true) (hx : okB x y = true) (hm : moveV l x y = (m1, m2)) (hl : l.length = 0) : m1 = x ∧ m2 = y := by
  unfold moveV at hm; rw [hf, hx, if_pos (by rfl), if_pos hl] at hm; simp at hm; omega
theorem any_empty {l : List (Int × Int)} (hl : l.length = 0) (X Y : Int) : anyB l X Y = false := any_false fun j hj => by omega
theorem move_ge {l : List (Int × Int)} {x y m1 m2 : Int} (hf : fokB l = true) (hx : okB x y = true) (hm : moveV l x y = (m1, m2)) : leB x y m1 m2 = true := by
  by_cases hl : l.length = 0
  · obtain ⟨rfl, rfl⟩ := move_empty hf hx hm hl; rw [leB_self]; exact hx
  · exact (move_facts hf hx hm hl).2.2 x y fun i hi => jn_left hx (fok_ok hf hi)
theorem move_ok {l : List (Int × Int)} {x y m1 m2 : Int} (hf : fokB l = true) (hx : okB x y = true) (hm : moveV l x y = (m1, m2)) : okB m1 m2 = true := by
  have := move_ge hf hx hm; rw [leB_iff] at this; exact this.2.1
theorem move_same {l : List (Int × Int)} {x y m1 m2 X Y : Int} (hf : fokB l = true) (hx : okB x y = true) (hm : moveV l x y = (m1, m2)) (hc : anyB l X Y = true) : leB x y X Y = leB m1 m2 X Y := by
  have hl : l.length ≠ 0 := fun h => by rw [any_empty h] at hc; simp at hc
  rw [Bool.eq_iff_iff]
  constructor
  · intro h
    obtain ⟨i, hi, hle⟩ := any_at hc
    exact leB_trans ((move_facts hf hx hm hl).2.1 i hi) (jn_least h hle)
  · intro h; exact leB_trans (move_ge hf hx hm) h
theorem move_twice {l : List (Int × Int)} {x y m1 m2 : Int} (hf : fokB l = true) (hx : okB x y = true) (hm : moveV l x y = (m1, m2)) : moveV l m1 m2 = (m1, m2) := by
  have ho := move_ok hf hx hm
  obtain ⟨n1, n2, hn⟩ : ∃ n1 n2, moveV l m1 m2 = (n1, n2) := ⟨_, _, rfl⟩
  by_cases hl : l.length = 0
  · obtain ⟨rfl, rfl⟩ := move_empty hf ho hn hl; exact hn
  · have h1 := move_ge hf ho hn
    have h2 : leB n1 n2 m1 m2 = true := (move_facts hf hx hm hl).2.2 n1 n2 fun i hi =>
      leB_trans ((move_facts hf ho hn hl).2.1 i hi) (jn_least ((move_facts hf hx hm hl).2.1 i hi) (jn_right hx (fok_ok hf hi)))
    obtain ⟨rfl, rfl⟩ := leB_anti h1 h2
    exact hn
theorem move_stay {l : List (Int × Int)} {x y m1 m2 : Int} (hf : fokB l = true) (hx : okB x y = true) (hm : moveV l x y = (m1, m2)) (hc : anyB l x y = true) : m1 = x ∧ m2 = y := by
  have h := move_same hf hx hm hc
  rw [leB_self, hx] at h
  exact leB_anti h.symm (move_ge hf hx hm)
end Go.Proofs.Ytlddhfimiignaaa
