/- PlanText of the model; how a text is cut into words, by both: the contracts. -/
import Derived.Test.YtfofchgcbdbikaaDoorLp3
namespace Go.Proofs.YtfofchgcbdbikaaDoor
open Go.RowKit Go.Shelf

set_option maxRecDepth 100000 in
set_option maxHeartbeats 4000000 in
theorem specPlanText_any {t : PT} {B : Nat} {s : Value} {w : World} (hs : KdS B w t s) :
    Calls Tryd.prog 9 #[pl t.k t.n s] w fun e w' => e = .returned (.string (baS (planText t))) ∧ Below w.heap.size w w' := by
  have bP : Bk (w.alloc (.cells #[.int .i64 t.k, .int .i64 t.n, s] 25)) w.heap.size #[.int .i64 t.k, .int .i64 t.n, s] 25 := Bk.new _ _ rfl
  have hb0 : Below w.heap.size w (w.alloc (.cells #[.int .i64 t.k, .int .i64 t.n, s] 25)) := bAlloc (Below.refl _ _) _
  have HS := (show Hid _ from hs.keep hb0)
  obtain ⟨a, c, rfl⟩ := hs.sl
  obtain ⟨x0, x1, x2⟩ := bP.three'
  clear hs
  go_enter Tryd.func9, Tryd.ntmps9
  go_wp2_with fail
  refine (specPlanOk_any HS.out).mono ?_
  rintro e w1 ⟨rfl, hb1⟩
  have hbw := bStep hb0 hb1
  have HS1 := (show Hid _ from HS.out.keep hb1)
  obtain ⟨y0, y1, y2⟩ := (bP.keep hb1).three'
  clear x0 x1 x2
  cases hp : pokB t 4
  · go_wp2_with fail
    go_ret
    exact ⟨by unfold planText; rw [hp]; rfl, hbw⟩
  · have HP := (show Hid (pokB t 4 = true) from hp)
    clear hp
    go_wp2_with fail
    refine (say_any 4 t (by omega) HP.out HS1.out).mono ?_
    rintro e w2 ⟨rfl, hb2⟩
    have hbf := bStep hbw hb2
    go_wp2_with fail
    go_ret
    exact ⟨by unfold planText; rw [HP.out]; rfl, hbf⟩
/-- Texts in memory, one behind the other. -/
def Wss (w : World) (v : Value) (l : List By) : Prop := ∃ a c, v = .slice a l.length c ∧ l.length ≤ c ∧ c ≤ maxLen ∧ (l.length = 0 ∨ ∃ g off, a = some ⟨g, off, none⟩ ∧ ∀ i x, l[i]? = some x → w.cell? ⟨g, off + i, none⟩ = some (.string (baS x)))
theorem Wss.keep {w w1 : World} {v : Value} {l : List By} (h : Wss w v l) (hb : Below w.heap.size w w1) : Wss w1 v l := by
  obtain ⟨a, c, h1, h2, h3, h4⟩ := h
  refine ⟨a, c, h1, h2, h3, h4.imp id fun ⟨g, off, e, hc⟩ => ⟨g, off, e, fun i x hx => cell_below hb (hc i x hx)⟩⟩
theorem Wss.tail {w : World} {x : By} {l : List By} {a : Option Addr} {n c : Nat} (h : Wss w (.slice a n c) (x :: l)) : ∃ g off, a = some ⟨g, off, none⟩ ∧ n = l.length + 1 ∧ l.length + 1 ≤ c ∧ c ≤ maxLen ∧ w.cell? ⟨g, off, none⟩ = some (.string (baS x)) ∧ Wss w (.slice (some ⟨g, off + 1, none⟩) l.length (c - 1)) l := by
  obtain ⟨a', c', e, h2, h3, h4⟩ := h
  obtain ⟨rfl, rfl, rfl⟩ := Value.slice.inj e
  simp only [List.length_cons] at h2 h4 ⊢
  rcases h4 with h4 | ⟨g, off, rfl, hc⟩
  · omega
  · refine ⟨g, off, rfl, (by first | rfl | trivial), h2, h3, by simpa using hc 0 x rfl, _, _, rfl, by omega, by omega, .inr ⟨g, off + 1, rfl, fun i y hy => ?_⟩⟩
    have := hc (i + 1) y (by simpa using hy)
    rwa [show off + 1 + i = off + (i + 1) by omega]
end Go.Proofs.YtfofchgcbdbikaaDoor
