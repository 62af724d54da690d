/- Rounds: plain facts; whether no Count is below 0: the contract. -/
import Derived.Test.YtjlaeeccnbdghaaGreatTo9
import Derived.Test.YtjlaeeccnbdghaaGreatGtX
import Derived.Test.YtjlaeeccnbdghaaGreatGd3
namespace Go.Proofs.YtjlaeeccnbdghaaGreat
open Go.RowKit

theorem step_one {ties first now : List It} : ∀ r ∈ stepL ties first now, r.2 = 1 ∧ r.1.2 = 0 := fun r hr => by
  unfold stepL at hr
  split at hr
  · unfold onceS at hr
    split at hr
    · unfold onceT at hr
      obtain ⟨q, hq, rfl⟩ := List.mem_map.1 hr
      refine ⟨rfl, ?_⟩
      obtain ⟨p, hp, e⟩ := sumL_key (List.mem_filter.1 hq).1
      show q.1.2 = 0
      rw [← e]
      rcases List.mem_append.1 hp with hp | hp
      · unfold keysT at hp
        obtain ⟨x, _, rfl⟩ := List.mem_map.1 hp
        rfl
      · unfold leadT leadRow at hp
        obtain ⟨t, _, hp⟩ := List.mem_flatMap.1 hp
        obtain ⟨x, _, rfl⟩ := List.mem_map.1 hp
        rfl
    · cases hr
  · cases hr
theorem step_sok (ties first now : List It) : sokB (stepL ties first now) = true := by
  unfold stepL
  split
  · unfold onceS
    split
    · rename_i h; exact once_sok h
    · exact sok_nil
  · exact sok_nil
theorem step_none {ties first now : List It} (h1 : sokB ties = true) (h3 : sokB now = true) : stepL ties first [] = stepL [] first now := by
  unfold stepL
  rw [h1, h3, sok_nil, show leadT ties [] = [] by simp [leadT, leadRow], show leadT [] now = [] by simp [leadT]]
theorem rnd_sok (ties first : List It) (n : Nat) : sokB (rndL ties first n) = true := by
  cases n with
  | zero => exact sok_nil
  | succ n => exact step_sok _ _ _
theorem rnd_one {ties first : List It} {n : Nat} {r : It} (h : r ∈ rndL ties first n) : r.2 = 1 ∧ r.1.2 = 0 ∧ 0 ≤ r.1.1 ∧ r.1.1 ≤ 3 := by
  have hk := sok_k (rnd_sok ties first n) r h
  cases n with
  | zero => cases h
  | succ n => obtain ⟨h1, h2⟩ := step_one r h; exact ⟨h1, h2, hk.1, hk.2.1⟩
theorem inc_len : ∀ (l : List Int) (a b : Int), l.Pairwise (fun x y => x < y) → (∀ x ∈ l, a ≤ x ∧ x ≤ b) → l.length ≤ (b - a + 1).toNat
  | [], _, _, _, _ => by simp
  | x :: l, a, b, h, hm => by
    have hx := hm x (by simp)
    have h1 := inc_len l (x + 1) b (List.pairwise_cons.1 h).2 (fun y hy => ⟨by have := (List.pairwise_cons.1 h).1 y hy; omega, (hm y (by simp [hy])).2⟩)
    simp only [List.length_cons]
    omega
/-- Items of the value 0. -/
def zV (l : List It) : Prop := ∀ r ∈ l, 0 ≤ r.1.1 ∧ r.1.1 ≤ 3 ∧ r.1.2 = 0
theorem zv_len {l : List It} (hs : Srt ltT l) (hz : zV l) : l.length ≤ 4 := by
  have h := inc_len (l.map fun r => r.1.1) 0 3 (by
    rw [List.pairwise_map]
    refine hs.imp_of_mem fun {x y} hx hy h => ?_
    have h1 := (hz x hx).2.2
    have h2 := (hz y hy).2.2
    simp only [ltT, decide_eq_true_eq] at h
    omega) (fun x hx => by
    obtain ⟨r, hr, rfl⟩ := List.mem_map.1 hx
    exact ⟨(hz r hr).1, (hz r hr).2.1⟩)
  rw [List.length_map] at h
  simpa using h
theorem zv_app {l m : List It} (h : zV l) (h' : zV m) : zV (l ++ m) := fun r hr => (List.mem_append.1 hr).elim (h r) (h' r)
theorem zv_sum {l : List It} (h : zV l) : zV (sumL ltT l) := fun r hr => by
  obtain ⟨p, hp, e⟩ := sumL_key hr
  rw [← e]; exact h p hp
theorem zv_led {ties first now : List It} (h2 : sokB first = true) : zV (keysT first ++ leadT ties now) := fun r hr => by
  rcases List.mem_append.1 hr with hp | hp
  · unfold keysT at hp
    obtain ⟨x, hx, rfl⟩ := List.mem_map.1 hp
    have := sok_k h2 x hx
    exact ⟨this.1, this.2.1, rfl⟩
  · unfold leadT leadRow at hp
    obtain ⟨t, ht, hp⟩ := List.mem_flatMap.1 hp
    obtain ⟨x, _, rfl⟩ := List.mem_map.1 hp
    refine ⟨?_, ?_, rfl⟩ <;> (show _ ≤ _; simp only; omega)
theorem zv_sok {l : List It} (hz : zV l) (ha : absum l ≤ 1099511627776) : sokB (sumL ltT l) = true := by
  refine sok_of (by have := zv_len (sumL_srt ltT_ord l) (zv_sum hz); omega) (fun r hr => ?_) (sumL_srt ltT_ord l)
  have h1 := sumL_abs ltT_ord hr
  have h2 := zv_sum hz r hr
  have h3 := sumL_nz ltT l r hr
  exact it_mk ⟨h2.1, h2.2.1, by omega, by omega, h3, by omega, by omega⟩

/-! ### Where no Count is below 0 -/
def pos (l : List It) : Prop := ∀ r ∈ l, 0 < r.2
theorem tot_pos : ∀ {l : List It} (_ : pos l) (z : Int × Int), 0 ≤ tot l z ∧ (0 < tot l z ↔ ∃ p ∈ l, p.1 = z)
  | [], _, z => by simp [tot]
  | r :: l, h, z => by
    have h1 := tot_pos (l := l) (fun q hq => h q (by simp [hq])) z
    have h2 := h r (by simp)
    have h3 : tot (r :: l) z = (if r.1 = z then r.2 else 0) + tot l z := by simp [tot]
    rw [h3]
    by_cases e : r.1 = z
    · rw [if_pos e]
      exact ⟨by omega, fun _ => ⟨r, by simp, e⟩, fun _ => by omega⟩
    · rw [if_neg e]
      refine ⟨by omega, fun h0 => ?_, fun h0 => ?_⟩
      · obtain ⟨p, hp, e2⟩ := h1.2.1 (by omega)
        exact ⟨p, by simp [hp], e2⟩
      · obtain ⟨p, hp, e2⟩ := h0
        rcases List.mem_cons.1 hp with rfl | hp
        · exact absurd e2 e
        · have := h1.2.2 ⟨p, hp, e2⟩; omega
theorem pos_led {ties first now : List It} (p1 : pos ties) (p2 : pos first) (p3 : pos now) : pos (keysT first ++ leadT ties now) := fun r hr => by
  rcases List.mem_append.1 hr with hp | hp
  · unfold keysT at hp
    obtain ⟨x, hx, rfl⟩ := List.mem_map.1 hp
    exact p2 x hx
  · unfold leadT leadRow at hp
    obtain ⟨t, ht, hp⟩ := List.mem_flatMap.1 hp
    obtain ⟨x, hx, rfl⟩ := List.mem_map.1 hp
    exact Int.mul_pos (p1 t ht) (p3 x (List.mem_filter.1 hx).1)
theorem step_iff {ties first now : List It} (h1 : sokB ties = true) (h2 : sokB first = true) (h3 : sokB now = true) (p1 : pos ties) (p2 : pos first) (p3 : pos now) (hA : absum (keysT first ++ leadT ties now) ≤ 1099511627776) (k : Int) :
    ((k, (0 : Int)), (1 : Int)) ∈ stepL ties first now ↔ (∃ f ∈ first, f.1.1 = k) ∨ (∃ t ∈ ties, ∃ x ∈ now, x.1.1 = t.1.1 ∧ t.1.2 % 4 = k) := by
  rw [stepL_yes h1 h2 h3]
  have hz := zv_led (ties := ties) (now := now) h2
  have hok := zv_sok hz hA
  have hp := pos_led p1 p2 p3
  have h4 : (∃ p ∈ keysT first ++ leadT ties now, p.1 = (k, (0 : Int))) ↔ (∃ f ∈ first, f.1.1 = k) ∨ (∃ t ∈ ties, ∃ x ∈ now, x.1.1 = t.1.1 ∧ t.1.2 % 4 = k) := by
    constructor
    · rintro ⟨p, hp, e⟩
      rcases List.mem_append.1 hp with hp | hp
      · unfold keysT at hp
        obtain ⟨x, hx, rfl⟩ := List.mem_map.1 hp
        exact .inl ⟨x, hx, (Prod.mk.inj e).1⟩
      · unfold leadT leadRow at hp
        obtain ⟨t, ht, hp⟩ := List.mem_flatMap.1 hp
        obtain ⟨x, hx, rfl⟩ := List.mem_map.1 hp
        exact .inr ⟨t, ht, x, (List.mem_filter.1 hx).1, by simpa using (List.mem_filter.1 hx).2, (Prod.mk.inj e).1⟩
    · rintro (⟨f, hf, e⟩ | ⟨t, ht, x, hx, e1, e2⟩)
      · exact ⟨((f.1.1, 0), f.2), List.mem_append.2 (.inl (List.mem_map.2 ⟨f, hf, rfl⟩)), by rw [e]⟩
      · refine ⟨((t.1.2 % 4, 0), t.2 * x.2), List.mem_append.2 (.inr ?_), by rw [e2]⟩
        unfold leadT leadRow
        exact List.mem_flatMap.2 ⟨t, ht, List.mem_map.2 ⟨x, List.mem_filter.2 ⟨hx, by simpa using e1⟩, rfl⟩⟩
  rw [← h4, ← (tot_pos hp (k, 0)).2]
  unfold onceS
  rw [if_pos hok]
  unfold onceT
  generalize keysT first ++ leadT ties now = P at *
  constructor
  · intro h
    obtain ⟨q, hq, e⟩ := List.mem_map.1 h
    have hq1 := (List.mem_filter.1 hq).1
    have hq2 : 0 < q.2 := by simpa using (List.mem_filter.1 hq).2
    have e1 : q.1 = (k, 0) := (Prod.mk.inj e).1
    have := srt_tot ltT_ord (sumL_srt ltT_ord P) hq1
    rw [sumL_tot ltT_ord, e1] at this
    omega
  · intro h
    refine List.mem_map.2 ⟨((k, 0), tot P (k, 0)), List.mem_filter.2 ⟨?_, by simpa using h⟩, rfl⟩
    refine (srt_mem ltT_ord (sumL_srt ltT_ord P) (sumL_nz ltT P) _).2 ⟨by simp only; omega, ?_⟩
    rw [sumL_tot ltT_ord]
theorem led_few {ties first now : List It} (h1 : absum ties ≤ 600) (h2 : absum first ≤ 600) (h3 : absum now ≤ 600) : absum (keysT first ++ leadT ties now) ≤ 1099511627776 := by
  rw [absum_append, keysT_abs]
  have h4 := leadT_abs ties now
  have h5 : absum ties * absum now ≤ 600 * 600 := Int.mul_le_mul h1 h3 (absum_pos now) (by omega)
  omega
theorem rnd_pos (ties first : List It) (n : Nat) : pos (rndL ties first n) := fun r hr => by have := (rnd_one hr).1; omega
theorem rnd_iff {ties first : List It} (h1 : sokB ties = true) (h2 : sokB first = true) (p1 : pos ties) (p2 : pos first) (a1 : absum ties ≤ 600) (a2 : absum first ≤ 600) (n : Nat) (k : Int) :
    ((k, (0 : Int)), (1 : Int)) ∈ rndL ties first (n + 1) ↔ (∃ f ∈ first, f.1.1 = k) ∨ (∃ t ∈ ties, ∃ x ∈ rndL ties first n, x.1.1 = t.1.1 ∧ t.1.2 % 4 = k) :=
  step_iff h1 h2 (rnd_sok _ _ _) p1 p2 (rnd_pos _ _ _) (led_few a1 a2 (rnd_abs _ _ _)) k
theorem rnd_form {ties first : List It} {n : Nat} {r : It} (h : r ∈ rndL ties first n) : r = ((r.1.1, 0), 1) := by
  obtain ⟨⟨K, V⟩, D⟩ := r
  obtain ⟨h1, h2, _⟩ := rnd_one h
  simp only at h1 h2
  subst h1 h2
  rfl
theorem rnd_mono {ties first : List It} (h1 : sokB ties = true) (h2 : sokB first = true) (p1 : pos ties) (p2 : pos first) (a1 : absum ties ≤ 600) (a2 : absum first ≤ 600) : ∀ (n : Nat), ∀ r ∈ rndL ties first n, r ∈ rndL ties first (n + 1)
  | 0, r, hr => by cases hr
  | n + 1, r, hr => by
    have e := rnd_form hr
    rw [e] at hr ⊢
    rw [rnd_iff h1 h2 p1 p2 a1 a2] at hr ⊢
    rcases hr with hr | ⟨t, ht, x, hx, e1⟩
    · exact .inl hr
    · exact .inr ⟨t, ht, x, rnd_mono h1 h2 p1 p2 a1 a2 n x hx, e1⟩
theorem four_bits : ∀ a0 b0 a1 b1 a2 b2 a3 b3 : Bool, (a0 = true → b0 = true) → (a1 = true → b1 = true) → (a2 = true → b2 = true) → (a3 = true → b3 = true) →
    a0.toNat + a1.toNat + a2.toNat + a3.toNat ≤ b0.toNat + b1.toNat + b2.toNat + b3.toNat ∧ b0.toNat + b1.toNat + b2.toNat + b3.toNat ≤ 4 ∧ (a0.toNat + a1.toNat + a2.toNat + a3.toNat = b0.toNat + b1.toNat + b2.toNat + b3.toNat → a0 = b0 ∧ a1 = b1 ∧ a2 = b2 ∧ a3 = b3) := by decide
def has4 (l : List It) (k : Int) : Bool := decide (((k, (0 : Int)), (1 : Int)) ∈ l)
def cnt4 (l : List It) : Nat := (has4 l 0).toNat + (has4 l 1).toNat + (has4 l 2).toNat + (has4 l 3).toNat
theorem rnd_four {ties first : List It} (h1 : sokB ties = true) (h2 : sokB first = true) (p1 : pos ties) (p2 : pos first) (a1 : absum ties ≤ 600) (a2 : absum first ≤ 600) : rndL ties first 4 = rndL ties first 6 := by
  have hb := fun (n : Nat) => four_bits (has4 (rndL ties first n) 0) (has4 (rndL ties first (n + 1)) 0) (has4 (rndL ties first n) 1) (has4 (rndL ties first (n + 1)) 1) (has4 (rndL ties first n) 2) (has4 (rndL ties first (n + 1)) 2) (has4 (rndL ties first n) 3) (has4 (rndL ties first (n + 1)) 3)
    (fun h => decide_eq_true (rnd_mono h1 h2 p1 p2 a1 a2 n _ (of_decide_eq_true h))) (fun h => decide_eq_true (rnd_mono h1 h2 p1 p2 a1 a2 n _ (of_decide_eq_true h)))
    (fun h => decide_eq_true (rnd_mono h1 h2 p1 p2 a1 a2 n _ (of_decide_eq_true h))) (fun h => decide_eq_true (rnd_mono h1 h2 p1 p2 a1 a2 n _ (of_decide_eq_true h)))
  have hst : ∃ n, n ≤ 4 ∧ rndL ties first (n + 1) = rndL ties first n := by
    apply Classical.byContradiction
    intro hno
    have hs : ∀ n, n ≤ 4 → cnt4 (rndL ties first n) < cnt4 (rndL ties first (n + 1)) := fun n hn => by
      obtain ⟨g1, g2, g3⟩ := hb n
      rcases Nat.lt_or_ge (cnt4 (rndL ties first n)) (cnt4 (rndL ties first (n + 1))) with h | h
      · exact h
      · exfalso
        refine hno ⟨n, hn, ?_⟩
        obtain ⟨q0, q1, q2, q3⟩ := g3 (Nat.le_antisymm g1 h)
        refine srt_ext ltT_ord (sok_srt (rnd_sok _ _ _)) (sok_srt (rnd_sok _ _ _)) fun r => ⟨fun hr => ?_, fun hr => rnd_mono h1 h2 p1 p2 a1 a2 n r hr⟩
        obtain ⟨_, _, k0, k3⟩ := rnd_one hr
        have e := rnd_form hr
        rw [e] at hr ⊢
        have hd : has4 (rndL ties first (n + 1)) r.1.1 = true := decide_eq_true hr
        obtain h | h | h | h : r.1.1 = 0 ∨ r.1.1 = 1 ∨ r.1.1 = 2 ∨ r.1.1 = 3 := by omega
        · rw [h] at hd ⊢; rw [← q0] at hd; exact of_decide_eq_true hd
        · rw [h] at hd ⊢; rw [← q1] at hd; exact of_decide_eq_true hd
        · rw [h] at hd ⊢; rw [← q2] at hd; exact of_decide_eq_true hd
        · rw [h] at hd ⊢; rw [← q3] at hd; exact of_decide_eq_true hd
    have s0 : cnt4 (rndL ties first 0) < cnt4 (rndL ties first 1) := hs 0 (by omega)
    have s1 : cnt4 (rndL ties first 1) < cnt4 (rndL ties first 2) := hs 1 (by omega)
    have s2 : cnt4 (rndL ties first 2) < cnt4 (rndL ties first 3) := hs 2 (by omega)
    have s3 : cnt4 (rndL ties first 3) < cnt4 (rndL ties first 4) := hs 3 (by omega)
    have s4 : cnt4 (rndL ties first 4) < cnt4 (rndL ties first 5) := hs 4 (by omega)
    have s5 : cnt4 (rndL ties first 5) ≤ 4 := (hb 4).2.1
    omega
  obtain ⟨n, hn, e⟩ := hst
  have e4 := rnd_fix e (4 - n)
  have e6 := rnd_fix e (6 - n)
  rw [show n + (4 - n) = 4 by omega] at e4
  rw [show n + (6 - n) = 6 by omega] at e6
  rw [e4, e6]
def plusB (l : List It) : Bool := l.all fun r => decide (0 ≤ r.2)
theorem plus_pos {l : List It} (h : sokB l = true) (hp : plusB l = true) : pos l := fun r hr => by
  have h1 := (it_parts (sok_at h hr)).2.2.2.2.1
  have h2 : 0 ≤ r.2 := by simpa using List.all_eq_true.1 hp r hr
  omega
end Go.Proofs.YtjlaeeccnbdghaaGreat
