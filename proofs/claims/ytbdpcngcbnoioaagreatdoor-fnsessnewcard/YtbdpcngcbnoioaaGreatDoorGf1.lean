import Derived.Test.YtbdpcngcbnoioaaGreatDoorGlk
import Derived.Test.YtbdpcngcbnoioaaGreatDoorGl1
import Derived.Test.YtbdpcngcbnoioaaGreatDoorGq1
import Derived.Test.YtbdpcngcbnoioaaGreatDoorGq3
import Derived.Test.YtbdpcngcbnoioaaGreatDoorGtX
import Derived.Test.YtbdpcngcbnoioaaGreatDoorGs7
import Derived.Test.YtbdpcngcbnoioaaGreatDoorGs2
import Derived.Test.YtbdpcngcbnoioaaGreatDoorGj5
import Derived.Deep.RegionHeld3
namespace Go.Proofs.YtbdpcngcbnoioaaGreatDoor
open Go.RowKit
theorem sumK_len (kind : Int) {s : List It} (h : sokB s = true) : (sumK kind s).length ≤ 400 := sok_len (sumK_sok kind h)
theorem dif_len (kind : Int) (l : List Rw) (t : Int × Int) : (difAt kind l t).length ≤ 1600 := by
  unfold difAt
  refine Nat.le_trans (sumL_len _ _) ?_
  have b := fun x y => sumK_len kind (items_sokF l x y)
  have b1 := b t.1 t.2
  have b2 := b (t.1 - 1) t.2
  have b3 := b t.1 (t.2 - 1)
  have b4 := b (t.1 - 1) (t.2 - 1)
  simp only [List.length_append, negI, List.length_map]
  omega
theorem dif_mem {kind : Int} {l : List Rw} {t : Int × Int} {r : It} (hr : r ∈ difAt kind l t) : -2 ≤ r.2 ∧ r.2 ≤ 2 ∧ itK r.1 := by
  have h1 : tot (difAt kind l t) r.1 = r.2 := srt_tot ltT_ord (sumL_srt ltT_ord _) hr
  have h2 := dif_tot kind l t r.1
  rw [h1] at h2
  have b := fun x y => sumK_tot1 kind (items_sokF l x y) r.1
  have b1 := b t.1 t.2
  have b2 := b (t.1 - 1) t.2
  have b3 := b t.1 (t.2 - 1)
  have b4 := b (t.1 - 1) (t.2 - 1)
  refine ⟨by omega, by omega, ?_⟩
  obtain ⟨p, hp, e⟩ := sumL_key hr
  have hk : ∀ x y, ∀ p ∈ sumK kind (itemsL l x y), itK p.1 := fun x y p hp => sok_k (sumK_sok kind (items_sokF l x y)) p hp
  have : itK p.1 := by
    simp only [List.mem_append] at hp
    rcases hp with ((hp | hp) | hp) | hp
    · exact hk _ _ p hp
    · obtain ⟨p', hp', rfl⟩ := List.mem_map.1 hp; exact hk _ _ p' hp'
    · obtain ⟨p', hp', rfl⟩ := List.mem_map.1 hp; exact hk _ _ p' hp'
    · exact hk _ _ p hp
  rw [e] at this
  exact this
theorem chgT_snoc (kind : Int) (l : List Rw) (ts : List (Int × Int)) (t : Int × Int) : chgT kind l (ts ++ [t]) = chgT kind l ts ++ stamp t (difAt kind l t) := by
  unfold chgT stamp; rw [List.flatMap_append]; simp
theorem chgT_len (kind : Int) (l : List Rw) (ts : List (Int × Int)) : (chgT kind l ts).length ≤ 1600 * ts.length := by
  unfold chgT
  refine flat_le (fun t => ?_) ts
  rw [List.length_map]; exact dif_len kind l t
theorem chgT_row {kind : Int} {l : List Rw} {ts : List (Int × Int)} (ht : ∀ t ∈ ts, okB t.1 t.2 = true) {r : Rw} (hr : r ∈ chgT kind l ts) : rwOkB r = true ∧ -2 ≤ r.2 ∧ r.2 ≤ 2 := by
  obtain ⟨h1, h2, _⟩ := chg_key ht hr
  unfold chgT at hr
  obtain ⟨t, htm, hr⟩ := List.mem_flatMap.1 hr
  obtain ⟨q, hq, rfl⟩ := List.mem_map.1 hr
  obtain ⟨d1, d2, _⟩ := dif_mem hq
  obtain ⟨k1, k2, k3⟩ := key_ok h1 h2
  have k4 : inB q.2 (-99999) 99999 = true := by simp [inB]; omega
  refine ⟨?_, d1, d2⟩
  simp only at k1 k2 k3
  simp only [rwOkB, k1, k2, k3, k4, Bool.and_self]
theorem jt_take {l : List Rw} {n : Nat} {t : Int × Int} (h : t ∈ (jtimes l).take n) : okB t.1 t.2 = true := jt_ok l t (List.mem_of_mem_take h)
end Go.Proofs.YtbdpcngcbnoioaaGreatDoor
namespace Go.Proofs.YtbdpcngcbnoioaaGreatDoor
open Go.RowKit Go.Shelf
theorem absum_ones {m : List It} (h : ∀ r ∈ m, r.2 = 1) : absum m ≤ m.length := by
  have := absum_le (l := m) (c := 1) (fun r hr => by rw [h r hr]; omega)
  omega
end Go.Proofs.YtbdpcngcbnoioaaGreatDoor
namespace Go.Proofs.YtbdpcngcbnoioaaGreatDoor
open Go.RowKit Go.Shelf
def accG (f : Int → List Rw) : Nat → List Rw
  | 0 => []
  | k + 1 => accG f k ++ f k
theorem accG_len {f : Int → List Rw} {c : Nat} (h : ∀ k, (f k).length ≤ c) (k : Nat) : (accG f k).length ≤ k * c := by
  induction k with
  | zero => simp [accG]
  | succ k ih => have := h k; simp only [accG, List.length_append, Nat.add_mul]; omega
theorem accG_four (kind : Int) (a : List Rw) : accG (fun k => chgL kind (rowsK a k)) 4 = fsumR kind a := by simp [accG, fsumR]
theorem chgL_len (kind : Int) (l : List Rw) : (chgL kind l).length ≤ 102400 := by
  unfold chgL
  have h1 := chgT_len kind l (jtimes l)
  have h2 := jtimes_len l
  omega
theorem fsumR_len (kind : Int) (a : List Rw) : (fsumR kind a).length ≤ 409600 := by
  have h := fun k => chgL_len kind (rowsK a k)
  have h0 := h 0; have h1 := h 1; have h2 := h 2; have h3 := h 3
  unfold fsumR; simp only [List.length_append]; omega
theorem fsumR_row {kind : Int} {a : List Rw} {r : Rw} (hr : r ∈ fsumR kind a) : rwOkB r = true ∧ -2 ≤ r.2 ∧ r.2 ≤ 2 := by
  unfold fsumR at hr
  simp only [List.mem_append] at hr
  rcases hr with ((hr | hr) | hr) | hr <;> exact chgT_row (jt_ok _) hr
theorem fsumR_abs (kind : Int) (a : List Rw) : absum (fsumR kind a) ≤ 819200 := by
  have h1 := absum_le (l := fsumR kind a) (c := 2) (fun _ hr => (fsumR_row hr).2)
  have h2 := fsumR_len kind a
  omega
theorem fsumR_sp {kind : Int} {a : List Rw} : ∀ r ∈ fsumR kind a, spOk r.1 := fun _ hr => rw_sp (fsumR_row hr).1
end Go.Proofs.YtbdpcngcbnoioaaGreatDoor
