/- Appends within a fence; rows of one time: facts. -/
import Derived.Test.YtpjmkejojenflaaGreatGl1
import Derived.Test.YtpjmkejojenflaaGreatGs7
import Derived.Test.YtpjmkejojenflaaGreatGb3
import Derived.Deep.AppendLies
namespace Go.Proofs.YtpjmkejojenflaaGreat
open Go.RowKit Go.Shelf

theorem appR_run {W : World} {base : Nat} {v : Value} {l : List Rw} (ty : TypeId) (hown : OwnR W base v l) (g0 : Nat) (K V A B D : Int) (hc : Bk W g0 #[.int .i64 K, .int .i64 V, .int .i64 A, .int .i64 B, .int .i64 D] 41) (hl : l.length ≤ 2000000) (hbase : base ≤ W.heap.size) :
    ∃ g cap w', (Builtin.append_ #[23, 23] ty #[v, .slice (some ⟨g0, 0, none⟩) 1 1]).run Tryz.prog W = .ok (.slice (some ⟨g, 0, none⟩) (l.length + 1) cap) w' ∧ OwnR w' base (.slice (some ⟨g, 0, none⟩) (l.length + 1) cap) (l ++ [(((K, V), (A, B)), D)]) ∧
      W.grownBy w' v.ownBlock ∧ (v.ownBlock = some g ∨ g = W.heap.size) ∧ g < w'.heap.size := by
  obtain ⟨i0, hi, hz0, hz1, hz2⟩ := info_parts infoR
  obtain ⟨g, cap, w', h1, h2, h3, h4, h5⟩ := run_append_lies (P := Tryz.prog) (w := W) 23 ty base 41 i0 _ 5 40 Tryz.underlying23 hi hz0 hz1 hz2 rfl (by decide) v l.length (l.flatMap rowC) hown ⟨g0, 0, none⟩ 1 1 (rowC (((K, V), (A, B)), D)) rfl (newsL hc) (onesR _) (by omega) (by unfold maxLen; omega) (by omega) hbase W.heap.size rfl
  refine ⟨g, cap, w', h1, ?_, h3, h4, h5⟩
  show w'.ownsRow _ _ _ _ _ _
  rw [List.flatMap_append]; simpa using h2
theorem wpIn_append0 {n : Nat} {P : Program} {o : Oper} {a : Act} {W W' : World} {K : Act → World → Prop} {Q : Exit → Act → World → Prop} (s x : Operand) (t : TypeId) (ho : o.op = .call { callee := .builtin .append, args := #[s, x], argTypes := #[t, t] })
    {v xx u : Value} (hs : a.eval s = v) (hx : a.eval x = xx) (hr : (Builtin.append_ #[t, t] o.type #[v, xx]).run P W = .ok u W') (h : K (a.put o.dst u) W') : o.wpIn Fence.wide n P a W K Q := by
  refine ⟨fun f _ => trivial, ?_⟩
  rw [Oper.semAt_eq _ _ _ (fun c e => by rw [ho] at e; cases e)]
  unfold execOp
  simp [ho, resolve, invoke, builtin, hs, hx, hr, Result.andThen]
  exact h
theorem wpListIn_app0 {n : Nat} {P : Program} {ops : Array Oper} {rest : List Oper} {o : Oper} {a : Act} {W W' : World} {Q : Exit → Act → World → Prop} (hgd : o.guard = none) (s x : Operand) (t : TypeId) (ho : o.op = .call { callee := .builtin .append, args := #[s, x], argTypes := #[t, t] })
    {v xx u : Value} (hs : a.eval s = v) (hx : a.eval x = xx) (hr : (Builtin.append_ #[t, t] o.type #[v, xx]).run P W = .ok u W') (h : wpListIn Fence.wide n P ops Q rest (a.put o.dst u) W') : wpListIn Fence.wide n P ops Q (o :: rest) a W :=
  wpListIn_plain hgd fun _ hK => wpIn_append0 s x t ho hs hx hr (hK _ _ h)
def stamp (t : Int × Int) (m : List It) : List Rw := m.map fun r => ((r.1, t), r.2)
theorem negAt_tot (l : List Rw) (x y : Int) (s : Int × Int) : tot (negI (atL l x y)) s = - tot (atL l x y) s := by
  unfold negI; exact tot_neg _ s
theorem stamp_snoc {m : List It} {k : Nat} {K V D : Int} {t : Int × Int} (h : m[k]? = some ((K, V), D)) : stamp t (m.take (k + 1)) = stamp t (m.take k) ++ [(((K, V), t), D)] := by
  unfold stamp; rw [take_snoc h, List.map_append]; rfl
theorem stamp_len (t : Int × Int) (m : List It) : (stamp t m).length = m.length := by unfold stamp; rw [List.length_map]
theorem negI_snoc1 (m : List It) (r : It) : negI (m ++ [r]) = negI m ++ [(r.1, -r.2)] := by unfold negI; rw [List.map_append]; rfl
theorem negI_len (m : List It) : (negI m).length = m.length := by unfold negI; rw [List.length_map]
theorem absum_negI (m : List It) : absum (negI m) = absum m := by
  unfold negI
  induction m with
  | nil => rfl
  | cons r m ih => simp only [List.map_cons, absum, ih]; omega
end Go.Proofs.YtpjmkejojenflaaGreat
