/- The powers of ten that strconv reads: some numbers, whatever they are. -/
import Derived.Test.YtpkfgjloepbfpaaDoorChs
import Derived.Test.YtpkfgjloepbfpaaDoorIt1
namespace Go.Proofs.YtpkfgjloepbfpaaDoor
open Go.ChangeShapes Go.WideShapes Go.RowKit

theorem cells_of_shapedOpen_u64 {P : Program} {w : World} {g : Nat} {t u : TypeId} {N : Nat}
    (h : w.ShapedOpen P) (hg : g < P.globals.size)
    (h0 : (((begin P (fun _ _ => 0) default).world.heap[g]?).bind Obj.row?).map (fun z => (z.1.size, z.2)) = some (N, t))
    (hb : P.buildable t = true) (hc : P.cellTypes P.depth t = some (List.replicate N u)) (hu : P.underlying u = some (.int .u64)) :
    ∀ i, i < N → ∃ z : Nat, z < 18446744073709551616 ∧ w.cell? ⟨g, i, none⟩ = some (.int .u64 (z : Int)) := by
  intro i hi
  obtain ⟨⟨zero, t'⟩, h1, h2⟩ := Option.map_eq_some_iff.1 h0
  simp only [Prod.mk.injEq] at h2
  obtain ⟨hz, rfl⟩ := h2
  obtain ⟨cs, hh, hs, hr⟩ := h.1 g zero t' hg h1
  obtain ⟨ts, hts, _, hall⟩ := hr hb
  rw [hc] at hts
  cases hts
  have h1 : i < cs.size := by omega
  obtain ⟨u', hu', hok⟩ := hall i cs[i] (by simp [h1])
  have : u' = u := List.eq_of_mem_replicate (List.mem_of_getElem? hu')
  subst this
  have hcell : w.cell? ⟨g, i, none⟩ = some cs[i] := by simp [World.cell?, hh, h1]
  rw [hcell]
  unfold Cell.ok at hok
  rw [hu] at hok
  cases hv : cs[i] <;> rw [hv] at hok <;> simp at hok
  case int k' n =>
    obtain ⟨rfl, hk⟩ := hok
    have h5 : IntKind.u64.min = 0 := by decide
    have h6 : IntKind.u64.max = 18446744073709551615 := by decide
    unfold IntKind.has at hk
    rw [h5, h6] at hk
    exact ⟨n.toNat, by omega, by rw [Int.toNat_of_nonneg (by omega)]⟩
theorem pow_open (W : World) (h : W.ShapedOpen Tryd.prog) : Pow W :=
  cells_of_shapedOpen_u64 (P := Tryd.prog) (t := 119) (N := 20) h (of_decide_eq_true (by kernel_rfl)) (by kernel_rfl) (by kernel_rfl) (by kernel_rfl) Tryd.underlying113
end Go.Proofs.YtpkfgjloepbfpaaDoor
