import Derived.Test.YtdbhgocaelmanaaGreatGf1
import Derived.Test.YtdbhgocaelmanaaGreatGq3
import Derived.Test.YtdbhgocaelmanaaGreatGd6
import Derived.Sort.CutIn
import Derived.Test.YtdbhgocaelmanaaGreatGt5
import Derived.Test.YtdbhgocaelmanaaGreatGt2
import Derived.Test.YtdbhgocaelmanaaGreatGt10
namespace Go.Proofs.YtdbhgocaelmanaaGreat
open Go.RowKit Go.Shelf
open Go.ChangeMaps (setBlock)
theorem yield_any {m m' : Nat} {P : Program} {l : Nat} {args : Array Value} {W : World} {R : Ending → World → Prop} (h : YieldAt Fence.wide m P l args W R) : YieldAt Fence.wide m' P l args W R := by
  obtain ⟨fn, tmps, assign, body, h1, h2, h3⟩ := h
  exact ⟨fn, tmps, assign, body, h1, h2, fun c cs _ => h3 c cs (room_wide _)⟩
theorem seqIt_n {α : Type} {m k : Nat} {P : Program} {g : Nat} {lb : Array Value} {encs : α → Array Value} {S : List α → Prop} {Pf : List α → α → Prop} {N : Nat} {w : World} (n : Nat) (h : SeqIt m Fence.wide k P g lb encs S Pf N w) : SeqIt m Fence.wide n P g lb encs S Pf N w :=
  fun l J W h1 h2 h3 h4 => callsIn_wide.2 (callsIn_wide.1 (h l J W h1 h2 (fun pre x W1 a b c => yield_any (h3 pre x W1 a b c)) h4))
theorem seqStops_n {α : Type} {k : Nat} {P : Program} {g : Nat} {lb : Array Value} {encs : α → Array Value} {Kp : World → World → Prop} {S Sp : List α → Prop} {N : Nat} {w : World} (n lq : Nat) (h : SeqStopsK Fence.wide k P g lb encs Kp S Sp N w) : SeqStopsK (Fence.wide.inRound lq) n P g lb encs Kp S Sp N w :=
  fun l J Jx W h1 h2 h2' h3 h4 => CallsIn.inRound lq (callsIn_wide.2 (callsIn_wide.1 (h l J Jx W h1 h2 h2' (fun pre x W1 a b => yield_any (m := n - 1) (h3 pre x W1 a b)) h4)))
theorem ownR_cells {w : World} {B : Nat} {v : Value} {l : List Rw} (h : OwnR w B v l) {q : Nat} (e : v.ownBlock = some q) : ∃ c : Array Value, Bk w q c 41 := by
  rcases ownK_open h rowC_len with ⟨rfl, _⟩ | ⟨g, cap, c, rfl, _, hb, _⟩
  · cases e
  · have : g = q := by simpa [Value.ownBlock] using e
    subst this; exact ⟨c, hb⟩
theorem ownI_cells {w : World} {B : Nat} {v : Value} {l : List It} (h : OwnI w B v l) {q : Nat} (e : v.ownBlock = some q) : ∃ c : Array Value, Bk w q c 96 := by
  rcases ownK_open h itC_len with ⟨rfl, _⟩ | ⟨g, cap, c, rfl, _, hb, _⟩
  · cases e
  · have : g = q := by simpa [Value.ownBlock] using e
    subst this; exact ⟨c, hb⟩
theorem Kx.of_below {N mb : Nat} {W W' : World} (h : Below W.heap.size W W') (hN : N ≤ W.heap.size) : Kx N mb W W' := ⟨h.size, fun k hk _ => h.block k (by omega)⟩
theorem bStepL {wb : Nat} {w W W' : World} (e : w.heap.size = wb) (h : Below wb w W) (hb : Below W.heap.size W W') : Below wb w W' := by
  subst e; exact bStep h hb
def ChI (kind : Int) (l : List Rw) (wb : Nat) (w W0 : World) (pre : List (Int × Int)) (W : World) : Prop :=
  (∃ v : Value, Bk W (wb + 1 + 1) #[v] 23 ∧ OwnR W W0.heap.size v (chgT kind l pre)) ∧ Below wb w W ∧ Kx W0.heap.size (wb + 1 + 1) W0 W
theorem chI_own {kind : Int} {l : List Rw} {wb : Nat} {w W0 : World} {pre : List (Int × Int)} {A B : World} {row : Option Nat} (hs : ChI kind l wb w W0 pre A) (hg : A.grownBy B row) (hr : ∀ r, row = some r → W0.heap.size ≤ r ∧ ∃ o, A.heap[r]? = some o ∧ o.isCells = false) (hm : wb + 1 + 1 < W0.heap.size) : ChI kind l wb w W0 pre B := by
  obtain ⟨⟨v, h1, h2⟩, h5, h6⟩ := hs
  have hs6 := h6.size
  have hne : ∀ {k : Nat} {c : Array Value} {t : TypeId}, Bk A k c t → ∀ r, row = some r → k ≠ r := fun hb r e e' => by
    obtain ⟨_, o, h8, h9⟩ := hr r e
    subst e'
    unfold Bk at hb
    rw [hb] at h8
    cases h8
    cases h9
  refine ⟨⟨v, Bk.grew h1 hg (hne h1), ownK_at h2 fun q e => hg.block q (ownK_lt h2 q e) (fun e' => ?_)⟩, ?_, ⟨Nat.le_trans hs6 hg.size, fun k hk hm => ?_⟩⟩
  · obtain ⟨c, hbc⟩ := ownR_cells h2 e
    exact hne hbc q e'.symm rfl
  · have := h1.lt
    exact Below.grew h5 hg (by omega) (fun r e => by have := (hr r e).1; omega)
  · rw [hg.block k (by omega) (fun e => by have := (hr k e.symm).1; omega)]; exact h6.block k hk hm
theorem chI_it {kind : Int} {l : List Rw} {wb : Nat} {w W0 : World} {pre : List (Int × Int)} {A B : World} (hs : ChI kind l wb w W0 pre A) (hi : ItS W0.heap.size (wb + 1 + 1) A B) (hm : wb + 1 + 1 < W0.heap.size) : ChI kind l wb w W0 pre B := by
  obtain ⟨⟨v, h1, h2⟩, h5, h6⟩ := hs
  refine ⟨⟨v, ?_, ownK_at h2 fun q e => hi.arr q (by rw [arrOf_bk h1]; exact e)⟩, ⟨hi.os.trans h5.os, hi.tape.trans h5.tape, hi.output.trans h5.output, Nat.le_trans h5.size hi.size, fun k hk => (hi.low k (by omega)).trans (h5.block k hk)⟩, ⟨Nat.le_trans h6.size hi.size, fun k hk hn => (hi.low k hk).trans (h6.block k hk hn)⟩⟩
  unfold Bk; rw [hi.low _ hm]; exact h1
abbrev smT (rv fv : Value) (wb c1 bm mp : Nat) (g1 : Value) (X Y : Int) (t18 t19 t20 t21 t22 t23 t24 : Value) : Array Value :=
  #[rv, fv, .pointer (some ⟨wb, 0, none⟩), .pointer (some ⟨wb + 1, 0, none⟩), .slice none 0 0, .pointer (some ⟨wb + 1 + 1, 0, none⟩), .pointer (some ⟨c1, 0, none⟩), .pointer (some ⟨bm, 0, none⟩), undef, undef, undef, undef, undef, undef, rv, g1, tv X Y, .map (some mp), t18, t19, t20, t21, t22, t23, t24, undef, undef, undef, undef, undef, undef, undef, undef, undef, undef, undef, undef, undef, undef, undef, undef, undef, undef, undef, undef, undef, undef, undef, undef, undef, undef, undef, undef, undef, undef, undef, undef, undef, undef, undef, undef, undef, undef, undef, undef, undef, undef, undef, undef, undef, undef, undef, undef]
structure SmI (kind : Int) (l : List Rw) (rv fv : Value) (wb c1 bm mp : Nat) (g1 : Value) (X Y : Int) (Wm : World) (L : Array Bool) (a : Act) (W : World) : Prop where
  sz : L.size = 7
  bel : Below Wm.heap.size Wm W
  ex : ∃ t18 t19 t20 t21 t22 t23 t24 : Value, a = { tmps := smT rv fv wb c1 bm mp g1 X Y t18 t19 t20 t21 t22 t23 t24, defers := [] } ∧
    (L.getD 0 false = true → t18 = fv) ∧ (L.getD 1 false = true → t19 = rv) ∧ (L.getD 2 false = true → t20 = tv X Y) ∧ (L.getD 3 false = true → Is W t21 (itemsL l X Y)) ∧
    (L.getD 4 false = true → OwnI W Wm.heap.size t22 (sumK kind (itemsL l X Y))) ∧ (L.getD 5 false = true → t23 = .int .i64 ((sumK kind (itemsL l X Y)).length : Nat)) ∧ (L.getD 6 false = true → t24 = .int .i64 0)
theorem smI_mk {kind : Int} {l : List Rw} {rv fv : Value} {wb c1 bm mp : Nat} {g1 : Value} {X Y : Int} {Wm : World} {L : Array Bool} {W : World} {t18 t19 t20 t21 t22 t23 t24 : Value} (i : Nat) (hs : L.size = 7) (hb : Below Wm.heap.size Wm W)
    (h0 : 0 = i ∨ L.getD 0 false = true → t18 = fv) (h1 : 1 = i ∨ L.getD 1 false = true → t19 = rv) (h2 : 2 = i ∨ L.getD 2 false = true → t20 = tv X Y) (h3 : 3 = i ∨ L.getD 3 false = true → Is W t21 (itemsL l X Y))
    (h4 : 4 = i ∨ L.getD 4 false = true → OwnI W Wm.heap.size t22 (sumK kind (itemsL l X Y))) (h5 : 5 = i ∨ L.getD 5 false = true → t23 = .int .i64 ((sumK kind (itemsL l X Y)).length : Nat)) (h6 : 6 = i ∨ L.getD 6 false = true → t24 = .int .i64 0) :
    SmI kind l rv fv wb c1 bm mp g1 X Y Wm (L.setIfInBounds i true) { tmps := smT rv fv wb c1 bm mp g1 X Y t18 t19 t20 t21 t22 t23 t24, defers := [] } W :=
  ⟨by simpa using hs, hb, _, _, _, _, _, _, _, rfl, fun e => h0 (getD_put e), fun e => h1 (getD_put e), fun e => h2 (getD_put e), fun e => h3 (getD_put e), fun e => h4 (getD_put e), fun e => h5 (getD_put e), fun e => h6 (getD_put e)⟩
theorem ne_or {i j : Nat} {p : Prop} {q : Prop} (h : p → q) (hn : ¬ i = j) : i = j ∨ p → q := fun e => h (e.resolve_left hn)
theorem sum_count (s : List It) : countS s = sumK 1 s := by simp [sumK]
theorem sum_once (s : List It) : onceS s = sumK 2 s := by simp [sumK]
theorem sum_least (s : List It) : leastS s = sumK 3 s := by simp [sumK]
theorem getD_tf2 {L : Array Bool} {i n : Nat} (h : L.getD i true = false) (hs : L.size = n) (hi : i < n) : L.getD i false = false := by
  have hi' : i < L.size := by omega
  simp only [Array.getD_eq_getD_getElem?, Array.getElem?_eq_getElem hi', Option.getD_some] at h ⊢
  exact h
theorem getD_tt2 {L : Array Bool} {i n : Nat} (h : L.getD i true = true) (hs : L.size = n) (hi : i < n) : L.getD i false = true := by
  have hi' : i < L.size := by omega
  simp only [Array.getD_eq_getD_getElem?, Array.getElem?_eq_getElem hi', Option.getD_some] at h ⊢
  exact h
theorem getD_no {L : Array Bool} {i : Nat} (h : L.getD i false = true) (h' : L.getD i true = false) : False := by
  have hi : i < L.size := by
    rcases Nat.lt_or_ge i L.size with h0 | h0
    · exact h0
    · rw [Array.getD_eq_getD_getElem?, Array.getElem?_eq_none h0] at h; cases h
  simp only [Array.getD_eq_getD_getElem?, Array.getElem?_eq_getElem hi, Option.getD_some] at h h'
  rw [h] at h'; cases h'
abbrev upT (rv fv g1 : Value) (wb c1 bm mp tb : Nat) (X Y : Int) (z21 z22 z23 z24 z26 z27 z40 : Value) (t28 t29 t30 t31 t32 t33 t34 t35 t36 t37 t38 t39 : Value) : Array Value :=
  #[rv, fv, .pointer (some ⟨wb, 0, none⟩), .pointer (some ⟨wb + 1, 0, none⟩), .slice none 0 0, .pointer (some ⟨wb + 1 + 1, 0, none⟩), .pointer (some ⟨c1, 0, none⟩), .pointer (some ⟨bm, 0, none⟩), undef, .pointer (some ⟨tb, 0, none⟩), undef, undef, undef, undef, rv, g1, tv X Y, .map (some mp), fv, rv, tv X Y, z21, z22, z23, z24, .bool true, z26, z27, t28, t29, t30, t31, t32, t33, t34, t35, t36, t37, t38, t39, z40, undef, undef, undef, undef, undef, undef, undef, undef, undef, undef, undef, undef, undef, undef, undef, undef, undef, undef, undef, undef, undef, undef, undef, undef, undef, undef, undef, undef, undef, undef, undef, undef]
structure UqI (rv fv g1 : Value) (wb c1 bm mp tb : Nat) (X Y : Int) (z21 z22 z23 z24 z26 z27 z40 : Value) (K V D T : Int) (st : Nat) (w0 w1 w2 : World) (L : Array Bool) (a : Act) (W : World) : Prop where
  sz : L.size = 13
  wA : L.getD 10 true = false → W = w0
  wB : L.getD 10 false = true → L.getD 12 true = false → W = w1
  wC : L.getD 12 false = true → W = w2
  ex : ∃ t28 t29 t30 t31 t32 t33 t34 t35 t36 t37 t38 t39 : Value, a = { tmps := upT rv fv g1 wb c1 bm mp tb X Y z21 z22 z23 z24 z26 z27 z40 t28 t29 t30 t31 t32 t33 t34 t35 t36 t37 t38 t39, defers := [] } ∧
    (L.getD 0 false = true → t28 = .map (some mp)) ∧ (L.getD 1 false = true → t29 = .pointer (some ⟨tb, 0, none⟩)) ∧ (L.getD 2 false = true → t30 = .int .i64 K) ∧ (L.getD 3 false = true → t31 = .pointer (some ⟨tb, 1, none⟩)) ∧ (L.getD 4 false = true → t32 = .int .i64 V) ∧ (L.getD 5 false = true → t33 = thV (K, V)) ∧ (L.getD 6 false = true → t34 = .int .i64 T) ∧ (L.getD 7 false = true → t35 = .pointer (some ⟨tb, 2, none⟩)) ∧ (L.getD 8 false = true → t36 = .int .i64 D) ∧ (L.getD 9 false = true → t37 = .int .i64 (T + D)) ∧ (L.getD 10 false = true → t38 = .tuple #[.int .i64 T, .int .i64 (st : Int)]) ∧ (L.getD 11 false = true → t39 = .int .i64 (st : Int))
theorem uqI_mk {rv fv g1 : Value} {wb c1 bm mp tb : Nat} {X Y : Int} {z21 z22 z23 z24 z26 z27 z40 : Value} {K V D T : Int} {st : Nat} {w0 w1 w2 : World} {L : Array Bool} {W : World} {t28 t29 t30 t31 t32 t33 t34 t35 t36 t37 t38 t39 : Value} (i : Nat) (hs : L.size = 13) (hA : (L.setIfInBounds i true).getD 10 true = false → W = w0) (hB : (L.setIfInBounds i true).getD 10 false = true → (L.setIfInBounds i true).getD 12 true = false → W = w1) (hC : (L.setIfInBounds i true).getD 12 false = true → W = w2)
    (h0 : 0 = i ∨ L.getD 0 false = true → t28 = .map (some mp)) (h1 : 1 = i ∨ L.getD 1 false = true → t29 = .pointer (some ⟨tb, 0, none⟩)) (h2 : 2 = i ∨ L.getD 2 false = true → t30 = .int .i64 K) (h3 : 3 = i ∨ L.getD 3 false = true → t31 = .pointer (some ⟨tb, 1, none⟩)) (h4 : 4 = i ∨ L.getD 4 false = true → t32 = .int .i64 V) (h5 : 5 = i ∨ L.getD 5 false = true → t33 = thV (K, V)) (h6 : 6 = i ∨ L.getD 6 false = true → t34 = .int .i64 T) (h7 : 7 = i ∨ L.getD 7 false = true → t35 = .pointer (some ⟨tb, 2, none⟩)) (h8 : 8 = i ∨ L.getD 8 false = true → t36 = .int .i64 D) (h9 : 9 = i ∨ L.getD 9 false = true → t37 = .int .i64 (T + D)) (h10 : 10 = i ∨ L.getD 10 false = true → t38 = .tuple #[.int .i64 T, .int .i64 (st : Int)]) (h11 : 11 = i ∨ L.getD 11 false = true → t39 = .int .i64 (st : Int)) :
    UqI rv fv g1 wb c1 bm mp tb X Y z21 z22 z23 z24 z26 z27 z40 K V D T st w0 w1 w2 (L.setIfInBounds i true) { tmps := upT rv fv g1 wb c1 bm mp tb X Y z21 z22 z23 z24 z26 z27 z40 t28 t29 t30 t31 t32 t33 t34 t35 t36 t37 t38 t39, defers := [] } W :=
  ⟨by simpa using hs, hA, hB, hC, _, _, _, _, _, _, _, _, _, _, _, _, rfl, fun e => h0 (getD_put e), fun e => h1 (getD_put e), fun e => h2 (getD_put e), fun e => h3 (getD_put e), fun e => h4 (getD_put e), fun e => h5 (getD_put e), fun e => h6 (getD_put e), fun e => h7 (getD_put e), fun e => h8 (getD_put e), fun e => h9 (getD_put e), fun e => h10 (getD_put e), fun e => h11 (getD_put e)⟩
structure LpS (wb : Nat) (w W0 Wb : World) (c1 : Nat) (X Y : Int) (C : List Rw) (DD : List It) (o7 : Value) (v : Value) (k : Nat) (wr : World) : Prop where
  kf : KeepsFrom W0.heap.size Wb wr
  kp : KpA (wb + 1 + 1) Wb wr
  box : Bk wr (wb + 1 + 1) #[v] 23
  own : OwnR wr W0.heap.size v (C ++ stamp (X, Y) (DD.take k))
  bel : Below wb w wr
  kx : Kx W0.heap.size (wb + 1 + 1) W0 wr
  items : ∃ B, OwnI wr B o7 DD
  tm : Bk wr c1 #[.int .i64 X, .int .i64 Y] 35
theorem row_blk {w : World} {q : Nat} {c d : Array Value} {t : TypeId} (h : Bk w q c 41) (k : Bk w q d t) : t = 41 := by
  unfold Bk at h k
  rw [h] at k
  cases k; rfl
theorem rows_blk {w : World} {q : Nat} {c d : Array Value} {t : TypeId} (h : Bk w q c 23) (k : Bk w q d t) : t = 23 := by
  unfold Bk at h k
  rw [h] at k
  cases k; rfl
theorem LpS.app {wb : Nat} {w W0 Wb : World} {c1 : Nat} {X Y : Int} {C : List Rw} {DD : List It} {o7 v : Value} {k : Nat} {wr W1 : World} {K V D : Int} {g5 : Nat} (h : LpS wb w W0 Wb c1 X Y C DD o7 v k wr) (hr : DD[k]? = some ((K, V), D)) (hb1 : Below wr.heap.size wr W1)
    (hg5 : Bk W1 g5 #[.int .i64 K, .int .i64 V, .int .i64 X, .int .i64 Y, .int .i64 D] 41) (hm : wb + 1 + 1 < W0.heap.size) (hlen : (C ++ stamp (X, Y) (DD.take k)).length ≤ 200000) (ty : TypeId) :
    ∃ (u : Value) (W : World), (Builtin.append_ #[23, 23] ty #[v, .slice (some ⟨g5, 0, none⟩) 1 1]).run Tryz.prog W1 = .ok u W ∧ (∃ (q : Addr) (n c : Nat), u = .slice (some q) n c) ∧ W.frozen? ⟨wb + 1 + 1, 0, none⟩ = false ∧ W.cell? ⟨wb + 1 + 1, 0, none⟩ = some v ∧ LpS wb w W0 Wb c1 X Y C DD o7 u (k + 1) (W.setCell ⟨wb + 1 + 1, 0, none⟩ u) := by
  have hs6 := h.kx.size
  have own1 := own_keep h.own hb1
  obtain ⟨gq, capq, W, e1, e2, e3, e4, e5⟩ := appR_run ty own1 g5 K V X Y D hg5 (by omega) (by have := hb1.size; omega)
  have hl2 : C ++ stamp (X, Y) (DD.take k) ++ [(((K, V), (X, Y)), D)] = C ++ stamp (X, Y) (DD.take (k + 1)) := by rw [stamp_snoc hr, List.append_assoc]
  rw [hl2] at e2
  obtain ⟨f1, f2, f3, f4, f5, f6, f7, f8⟩ := round_fin h.box hm (by omega) h.own hb1 e3 e2 (e4.elim (fun e => .inl e.symm) (fun e => .inr ⟨gq, rfl, by omega, e5⟩)) h.bel hs6
  have harr : ∀ {g : Nat} {c : Array Value} {t : TypeId}, Bk wr g c t → t ≠ 41 → arrOf wr (wb + 1 + 1) ≠ some g := fun hb ht e => by
    rw [arrOf_bk h.box] at e
    obtain ⟨c', hc'⟩ := ownR_cells h.own e
    exact ht (row_blk hc' hb)
  have hbox : ∀ {g : Nat} {c : Array Value} {t : TypeId}, Bk wr g c t → t ≠ 23 → g ≠ wb + 1 + 1 := fun hb ht e => by
    subst e
    exact ht (rows_blk h.box hb)
  refine ⟨_, W, e1, ⟨_, _, _, rfl⟩, f1, f2, h.kf.trans f3, h.kp.trans f4, f5, f6, f7, ⟨Nat.le_trans hs6 f4.size, fun q hq hn => ?_⟩, ?_, f4.bk h.tm (hbox h.tm (by decide)) (harr h.tm (by decide))⟩
  · rw [Below.heap_setCell _ _ _ _ (show q ≠ (⟨wb + 1 + 1, 0, none⟩ : Addr).block from hn), e3.block q (by have := hb1.size; omega) (fun e => by have := ownK_base h.own q e.symm; omega), hb1.block q (by omega)]
    exact h.kx.block q hq hn
  · obtain ⟨B, hI⟩ := h.items
    refine ⟨B, ownK_at hI fun q e => ?_⟩
    obtain ⟨c, hc⟩ := ownI_cells hI e
    exact (f4.bk hc (hbox hc (by decide)) (harr hc (by decide))).trans hc.symm
theorem keepsFrom_below {N : Nat} {A B : World} (h : Below A.heap.size A B) : KeepsFrom N A B := ⟨h.size, fun k _ _ hk _ => (h.block k (Array.getElem?_eq_some_iff.1 hk).1).trans hk⟩
end Go.Proofs.YtdbhgocaelmanaaGreat
namespace Go.Proofs.YtdbhgocaelmanaaGreat
open Go.RowKit Go.Shelf
open Go.ChangeMaps (setBlock)
attribute [local go_sem] Oper.semAt_some
set_option maxRecDepth 100000 in
set_option maxHeartbeats 32000000 in
theorem changes_any (kind : Int) (fn : Nat) (eg : ∀ args w, (callFunc fn args).run Tryz.prog w = .ok (.enter fn args) w) (hset : ∀ (v : Value) (s : List It) (W : World), Is W v s → Calls Tryz.prog fn #[v] W fun e w' => ∃ o : Value, e = .returned o ∧ OwnI w' W.heap.size o (sumK kind s) ∧ Below W.heap.size W w')
    (a : Option Addr) (cap : Nat) (l : List Rw) (w : World) (hk : rokB l = true) (hRs : Rs w (.slice a l.length cap) l) :
    CallsIn Fence.wide 6 Tryz.prog 76 #[.slice a l.length cap, .func (.func fn) #[] #[]] w fun e w' => ∃ o : Value, e = .returned o ∧ OwnR w' w.heap.size o (chgL kind l) ∧ Below w.heap.size w w' := by
  have HSET := (show Hid _ from hset)
  have hll := rok_len hk
  have HH : Hid (Rs w (.slice a l.length cap) l) := hRs
  refine callsIn_of_wp_marks Tryz.func76 rfl trivial ?_ rfl
  simp only [Tryz.ntmps76, List.size_toArray, List.length_cons, List.length_nil, Nat.reduceAdd, Nat.reduceSub, Array.replicate_succ, Array.replicate_zero, List.push_toArray, List.append_toArray, List.nil_append, List.cons_append]
  gi_wp2
  refine ⟨trivial, ?_⟩
  refine CallsIn.mono (callsIn_wide.2 (joinedTimes_any _ _ _ _)) ?_
  rintro e W0 ⟨rfl, hW0⟩
  have bA0 : Bk W0 w.heap.size #[.slice a l.length cap] 23 := by
    rw [hW0]; exact ((((Bk.new (w := w) _ _ rfl).alloc _).alloc _).alloc _)
  have bF0 : Bk W0 (w.heap.size + 1) #[.func (.func fn) #[] #[]] 89 := by
    rw [hW0]; exact ((Bk.new (w := w.alloc _) _ _ (by simp)).alloc _).alloc _
  have bm0 : Bk W0 (w.heap.size + 1 + 1) #[.slice none 0 0] 23 := by
    rw [hW0]; exact (Bk.new (w := (w.alloc _).alloc _) _ _ (by simp)).alloc _
  have b10 : Bk W0 (w.heap.size + 1 + 1 + 1) #[.slice a l.length cap] 23 := by
    rw [hW0]
    have := Bk.new (w := ((w.alloc (.cells #[.slice a l.length cap] 23)).alloc (.cells #[.func (.func fn) #[] #[]] 89)).alloc (.cells #[.slice none 0 0] 23)) #[.slice a l.length cap] 23 (k := w.heap.size + 1 + 1 + 1) (by simp)
    exact this
  have hsz : W0.heap.size = w.heap.size + 1 + 1 + 1 + 1 := by rw [hW0]; simp
  have hB0 : Below w.heap.size w W0 := by rw [hW0]; exact bAlloc (bAlloc (bAlloc (bAlloc (Below.refl _ _) _) _) _) _
  clear hW0 hRs hset
  have ha0 : arrOf W0 (w.heap.size + 1 + 1) = none := by rw [arrOf_bk bm0]; rfl
  have R0 := HH.out.keep hB0
  gi_wp2
  generalize hwb : w.heap.size = wb at *
  have HSZ : Hid (W0.heap.size = wb + 1 + 1 + 1 + 1) := hsz
  have HWB : Hid (w.heap.size = wb) := hwb
  clear hwb
  have hmW : wb + 1 + 1 < W0.heap.size := by omega
  refine wpIn_rangeFunc_it (n := 6) (m := wb + 1 + 1) (w0 := W0) rfl (by omega) (gf := 153) (lb := #[.pointer (some ⟨wb + 1 + 1 + 1, 0, none⟩)]) rfl trivial (enters_of Tryz.func153 (by kernel_rfl) rfl)
    (seqIt_n 5 (joined_seq (wb + 1 + 1 + 1) (wb + 1 + 1) a cap l W0 hk R0 b10 hmW (fun q e => by rw [ha0] at e; cases e))) hmW (Below.refl _ _) (fun _ => rfl)
    (fun pre W => ChI kind l wb w W0 pre W)
    (fun pre A B row hs hg hr => chI_own hs hg hr hmW)
    (fun pre A B hs hi => chI_it hs hi hmW)
    ⟨⟨_, bm0, ownK_nil _ _ _ _ _⟩, hB0, Kx.refl _ _ _⟩
    (fun t a' W => ∃ c1 : Nat, W0.heap.size ≤ c1 ∧ Bk W c1 #[.int .i64 t.1, .int .i64 t.2] 35 ∧
      a' = { tmps := #[.slice a l.length cap, .func (.func fn) #[] #[], .pointer (some ⟨wb, 0, none⟩), .pointer (some ⟨wb + 1, 0, none⟩), .slice none 0 0, .pointer (some ⟨wb + 1 + 1, 0, none⟩), .pointer (some ⟨c1, 0, none⟩), undef, undef, undef, undef, undef, undef, undef, .slice a l.length cap, .func (.func 153) #[] #[.pointer (some ⟨wb + 1 + 1 + 1, 0, none⟩)], tv t.1 t.2, undef, undef, undef, undef, undef, undef, undef, undef, undef, undef, undef, undef, undef, undef, undef, undef, undef, undef, undef, undef, undef, undef, undef, undef, undef, undef, undef, undef, undef, undef, undef, undef, undef, undef, undef, undef, undef, undef, undef, undef, undef, undef, undef, undef, undef, undef, undef, undef, undef, undef, undef, undef, undef, undef, undef, undef], defers := [] })
    (fun t a' _ A B row hs hg hr => by
      obtain ⟨c1, h1, h3, h7⟩ := hs
      exact ⟨c1, h1, Bk.grew h3 hg (fun r e e' => by
        obtain ⟨_, o, h8, h9⟩ := hr r e
        subst e'
        unfold Bk at h3
        rw [h3] at h8
        cases h8
        cases h9), h7⟩)
    ?assign ?body ?done
  case assign =>
    rintro lq pre t W K ⟨⟨v, h1, h2⟩, h5, h6⟩ hK
    have hbW : Below W.heap.size W (W.alloc (.cells #[.int .i64 t.1, .int .i64 t.2] 35)) := bAlloc (Below.refl _ _) _
    have hs6 := h6.size
    gi_wp2
    refine hK _ _ ((KeepsOthers.alloc _ _).from _) (KpA.below hbW h1.lt) ⟨⟨v, h1.keep hbW, own_keep h2 hbW⟩, bStepL HWB.out h5 hbW, h6.trans (Kx.of_below hbW hs6)⟩ ⟨W.heap.size, hs6, Bk.new _ _ rfl, rfl⟩
  case body =>
    rintro lq pre ⟨X, Y⟩ a' Wb hlq ⟨rq, hrq⟩ hI ⟨c1, hc1, k1, rfl⟩ hlt hPf
    simp only at k1
    obtain ⟨⟨v, h1, h2⟩, h5, h6⟩ := hI
    obtain ⟨n, hn, hpre, hgt⟩ := hPf
    have HTI : Hid ((jtimes l)[n]? = some (X, Y)) := by
      show _ = _
      rw [List.getElem?_eq_getElem hn, ← hgt]
      simp [gt, List.getD_eq_getElem?_getD, List.getElem?_eq_getElem hn]
    have HSN : Hid (chgT kind l (pre ++ [(X, Y)]) = chgT kind l pre ++ stamp (X, Y) (difAt kind l (X, Y))) := chgT_snoc kind l pre (X, Y)
    have HLK : Hid (∀ L : List It, (∀ v, tot L v = tot (sumK kind (itemsL l X Y)) v - tot (atL (chgT kind l pre) X Y) v) → sumL ltT L = difAt kind l (X, Y)) := fun L hL => lack_sum kind hk HTI.out (by rw [← hpre]; exact hL)
    have HCR : Hid (∀ r ∈ chgT kind l pre, rwOkB r = true ∧ -2 ≤ r.2 ∧ r.2 ≤ 2) := fun r hr => chgT_row (fun t ht => by rw [hpre] at ht; exact jt_take ht) hr
    have hcl : (chgT kind l pre).length ≤ 102400 := by have := chgT_len kind l pre; omega
    have hs6 := h6.size
    have bA : Bk Wb wb #[.slice a l.length cap] 23 := by unfold Bk; rw [h6.block wb (by omega) (by omega)]; exact bA0
    have bF : Bk Wb (wb + 1) #[.func (.func fn) #[] #[]] 89 := by unfold Bk; rw [h6.block (wb + 1) (by omega) (by omega)]; exact bF0
    have Rl : Rs Wb (.slice a l.length cap) l := HH.out.keep (by rw [HWB.out]; exact h5)
    have H6 := (show Hid (Kx W0.heap.size (wb + 1 + 1) W0 Wb) from h6)
    have H5 := (show Hid (Below wb w Wb) from h5)
    have HRQ := (show Hid (Wb.heap[lq]? = some (.loop rq)) from hrq)
    clear hpre hgt hn bA0 bF0 bm0 b10 h6 h5 hrq R0 hB0 ha0
    have hmm := @run_makeMap Tryz.prog
    have hbM : Below Wb.heap.size Wb ((Wb.alloc (.map #[] 0)).alloc (.cells #[.map (some Wb.heap.size)] 98)) := bAlloc (bAlloc (Below.refl _ _) _) _
    have mI0 : MapIs thV thOk ((Wb.alloc (.map #[] 0)).alloc (.cells #[.map (some Wb.heap.size)] 98)) Wb.heap.size [] := (MapIs.new Wb rfl).keep (bAlloc (Below.refl _ _) _)
    have bM0 : Bk ((Wb.alloc (.map #[] 0)).alloc (.cells #[.map (some Wb.heap.size)] 98)) (Wb.heap.size + 1) #[.map (some Wb.heap.size)] 98 := Bk.new (w := Wb.alloc (.map #[] 0)) _ _ (by simp)
    have hszM : ((Wb.alloc (.map #[] 0)).alloc (.cells #[.map (some Wb.heap.size)] 98)).heap.size = Wb.heap.size + 1 + 1 := by simp
    gi_wp2
    generalize ((Wb.alloc (.map #[] 0)).alloc (.cells #[.map (some Wb.heap.size)] 98)) = Wm at *
    clear hmm
    have HBM := (show Hid (Below Wb.heap.size Wb Wm) from hbM)
    have HSM := (show Hid (Wm.heap.size = Wb.heap.size + 1 + 1) from hszM)
    have HKM := (show Hid (MapIs thV thOk Wm Wb.heap.size [] ∧ Bk Wm (Wb.heap.size + 1) #[.map (some Wb.heap.size)] 98) from ⟨mI0, bM0⟩)
    have HX : Hid (∀ W, Below Wm.heap.size Wm W → Rs W (.slice a l.length cap) l ∧ Bk W wb #[.slice a l.length cap] 23 ∧ Bk W (wb + 1) #[.func (.func fn) #[] #[]] 89 ∧ Bk W c1 #[.int .i64 X, .int .i64 Y] 35) := fun W hW => by
      have hb := bStep HBM.out hW
      exact ⟨Rl.keep hb, bA.keep hb, bF.keep hb, k1.keep hb⟩
    have HV := (show Hid (Bk Wb (wb + 1 + 1) #[v] 23 ∧ OwnR Wb W0.heap.size v (chgT kind l pre) ∧ Bk Wb c1 #[.int .i64 X, .int .i64 Y] 35) from ⟨h1, h2, k1⟩)
    clear hbM mI0 bM0 hszM Rl bA bF k1 h1 h2
    refine wpIn_region_inv2 (by kernel_rfl) (SmI kind l (.slice a l.length cap) (.func (.func fn) #[] #[]) wb c1 (Wb.heap.size + 1) Wb.heap.size (.func (.func 153) #[] #[.pointer (some ⟨wb + 1 + 1 + 1, 0, none⟩)]) X Y Wm) ?hg ?hs ?h0 ?hstep ?hend
    case hg =>
      intro i op ho
      have hi : i < 7 := (Array.getElem?_eq_some_iff.1 ho).1
      obtain rfl | rfl | rfl | rfl | rfl | rfl | rfl : i = 0 ∨ i = 1 ∨ i = 2 ∨ i = 3 ∨ i = 4 ∨ i = 5 ∨ i = 6 := by omega
      all_goals cases ho; rfl
    case hs => intro L a W hI; exact hI.sz
    case h0 => exact ⟨by simp, (Below.refl _ _).drew, _, _, _, _, _, _, _, rfl, fun e => by simp at e, fun e => by simp at e, fun e => by simp at e, fun e => by simp at e, fun e => by simp at e, fun e => by simp at e, fun e => by simp at e⟩
    case hstep =>
      rintro L ac W i op - ⟨hLs, hb, t18, t19, t20, t21, t22, t23, t24, rfl, s0, s1, s2, s3, s4, s5, s6⟩ hi ho
      obtain ⟨hun, o', ho', hall⟩ := mem_ready.1 hi
      rw [ho] at ho'
      cases ho'
      have hi7 : i < 7 := (Array.getElem?_eq_some_iff.1 ho).1
      clear hi
      obtain ⟨RL, BA, BF, BT⟩ := HX.out W hb
      generalize hK : (fun a' w' => SmI kind l (.slice a l.length cap) (.func (.func fn) #[] #[]) wb c1 (Wb.heap.size + 1) Wb.heap.size (.func (.func 153) #[] #[.pointer (some ⟨wb + 1 + 1 + 1, 0, none⟩)]) X Y Wm (L.setIfInBounds i true) a' w') = K'
      obtain rfl | rfl | rfl | rfl | rfl | rfl | rfl : i = 0 ∨ i = 1 ∨ i = 2 ∨ i = 3 ∨ i = 4 ∨ i = 5 ∨ i = 6 := by omega
      · cases ho
        have q0 := BF.cell (i := 0) (v := .func (.func fn) #[] #[]) rfl
        clear BA BT RL BF
        go_simp
        subst hK
        exact smI_mk 0 hLs hb (fun _ => rfl) (ne_or s1 (by omega)) (ne_or s2 (by omega)) (ne_or s3 (by omega)) (ne_or s4 (by omega)) (ne_or s5 (by omega)) (ne_or s6 (by omega))
      · cases ho
        have q0 := BA.cell (i := 0) (v := .slice a l.length cap) rfl
        clear BA BT RL BF
        go_simp
        subst hK
        exact smI_mk 1 hLs hb (ne_or s0 (by omega)) (fun _ => rfl) (ne_or s2 (by omega)) (ne_or s3 (by omega)) (ne_or s4 (by omega)) (ne_or s5 (by omega)) (ne_or s6 (by omega))
      · cases ho
        obtain ⟨q0, q1, _, _⟩ := BT.two
        clear BA RL BF
        go_simp
        subst hK
        exact smI_mk 2 hLs hb (ne_or s0 (by omega)) (ne_or s1 (by omega)) (fun _ => rfl) (ne_or s3 (by omega)) (ne_or s4 (by omega)) (ne_or s5 (by omega)) (ne_or s6 (by omega))
      · cases ho
        have e1 := s1 (hall ⟨1, .data⟩ (by simp) rfl)
        have e2 := s2 (hall ⟨2, .data⟩ (by simp) rfl)
        subst e1 e2
        clear BA BT BF
        go_simp
        refine ⟨trivial, ?_⟩
        refine CallsIn.inRound lq (CallsIn.mono (callsIn_wide.2 (implAt_any _ l X Y W RL)) ?_)
        rintro e W1 ⟨o1, rfl, own1, hb1⟩
        have I1 := OwnI.is own1 (by have := items_len l X Y; omega)
        subst hK
        exact smI_mk 3 hLs (bStep hb hb1) (ne_or s0 (by omega)) (fun _ => rfl) (fun _ => rfl) (fun _ => I1) (ne_or (fun e => own_keep (s4 e) hb1) (by omega)) (ne_or s5 (by omega)) (ne_or s6 (by omega))
      · cases ho
        have e0 := s0 (hall ⟨0, .data⟩ (by simp) rfl)
        have e3 := s3 (hall ⟨3, .data⟩ (by simp) rfl)
        subst e0
        clear BA BT BF
        go_simp
        refine ⟨trivial, ?_⟩
        refine CallsIn.inRound lq (CallsIn.mono (callsIn_wide.2 (HSET.out _ (itemsL l X Y) W e3)) ?_)
        rintro e W1 ⟨o1, rfl, own1, hb1⟩
        subst hK
        exact smI_mk 4 hLs (bStep hb hb1) (fun _ => rfl) (ne_or s1 (by omega)) (ne_or s2 (by omega)) (ne_or (fun e => (s3 e).keep hb1) (by omega)) (fun _ => own_less own1 hb.size) (ne_or s5 (by omega)) (ne_or s6 (by omega))
      · cases ho
        have e4 := s4 (hall ⟨4, .data⟩ (by simp) rfl)
        obtain ⟨a4, c4, e5, -⟩ := Is.open (OwnI.is e4 (by have := sumK_len kind (items_sokF l X Y); omega))
        subst e5
        clear BA BT BF RL
        go_simp
        subst hK
        exact smI_mk 5 hLs hb (ne_or s0 (by omega)) (ne_or s1 (by omega)) (ne_or s2 (by omega)) (ne_or s3 (by omega)) (fun _ => e4) (fun _ => rfl) (ne_or s6 (by omega))
      · cases ho
        clear BA BT BF RL
        go_simp
        subst hK
        exact smI_mk 6 hLs hb (ne_or s0 (by omega)) (ne_or s1 (by omega)) (ne_or s2 (by omega)) (ne_or s3 (by omega)) (ne_or s4 (by omega)) (ne_or s5 (by omega)) (fun _ => rfl)
    case hend =>
      rintro L ac W5 ⟨hLs, hb5, t18, t19, t20, t21, t22, t23, t24, rfl, s0, s1, s2, s3, s4, s5, s6⟩ hr
      have hallL : ∀ j, j < 7 → L.getD j false = true := by
        refine all_listed2 (by simpa using hLs) ?_ hr
        intro i op ho
        have hi : i < 7 := (Array.getElem?_eq_some_iff.1 ho).1
        obtain rfl | rfl | rfl | rfl | rfl | rfl | rfl : i = 0 ∨ i = 1 ∨ i = 2 ∨ i = 3 ∨ i = 4 ∨ i = 5 ∨ i = 6 := by omega
        all_goals cases ho
        all_goals (first | (simp; done) | (simp [Region.binds]; done) | decide)
      have own5 := s4 (hallL 4 (by omega))
      have e5 := s5 (hallL 5 (by omega))
      have e6 := s6 (hallL 6 (by omega))
      have e0 := s0 (hallL 0 (by omega))
      have e1 := s1 (hallL 1 (by omega))
      have e2 := s2 (hallL 2 (by omega))
      subst e5 e6 e0 e1 e2
      have hSl := sumK_len kind (items_sokF l X Y)
      have HS1 : Hid (absum (sumK kind (itemsL l X Y)) ≤ 400 ∧ ∀ r ∈ sumK kind (itemsL l X Y), thOk r.1) := by
        have := absum_ones (m := sumK kind (itemsL l X Y)) (fun r hr => sumK_ones (items_sokF l X Y) hr)
        exact ⟨by omega, fun r hr => it_th (sok_k (sumK_sok kind (items_sokF l X Y)) r hr)⟩
      have I5 := OwnI.is own5 (by omega)
      obtain ⟨a5, cp5, e7, -, -, -, hcells5⟩ := Is.open I5
      subst e7
      have HC5 := (show Hid _ from hcells5)
      have HM5 := (show Hid (MapIs thV thOk W5 Wb.heap.size []) from HKM.out.1.keep hb5)
      have HB5 := (show Hid (Below Wm.heap.size Wm W5) from hb5)
      have HGB : Hid (∀ (i : Nat) (g off : Nat), i < (sumK kind (itemsL l X Y)).length → a5 = some ⟨g, off, none⟩ → Wm.heap.size ≤ g) := fun i g off hi e => by
        have := ownK_base own5 g (by rw [e]; rfl)
        exact this
      clear s0 s1 s2 s3 s4 s5 s6 hallL hr hLs own5 I5 hcells5 hb5
      generalize hS : sumK kind (itemsL l X Y) = S at *
      clear hS
      dsimp only [smT]
      gi_wp2
      gi_loopw [24] (fun i wr => ∃ (k : Nat) (M : List It), k ≤ S.length ∧ i = .int .i64 k ∧ MapIs thV thOk wr Wb.heap.size M ∧ (∀ s, tot M s = tot (S.take k) s) ∧ M.length ≤ k ∧ Bx Wb.heap.size W5 wr) (fun i _ => S.length - (intOf i).toNat)
      case atStart => exact ⟨0, [], by omega, rfl, HM5.out, fun s => rfl, by simp, Bx.refl _ _⟩
      case round =>
        clear HM5
        obtain ⟨k, M, hkS, rfl, hmap, hT, hMl, hx⟩ := hrel
        have HT := (show Hid (∀ s, tot M s = tot (S.take k) s) from hT)
        clear hT
        have hsm := HSM.out
        by_cases hltS : k < S.length
        · obtain ⟨g, off, K, V, D, rfl, hg, hr, c0, c1', c2⟩ := HC5.out k hltS
          have hgb := HGB.out k g off hltS rfl
          have hgx : wr.heap[g]? = W5.heap[g]? := hx.block g hg (by omega)
          have d0 : wr.cell? ⟨g, off + k * 3, none⟩ = some (.int .i64 K) := by rw [World.cell?_of_block (w := W5) hgx]; exact c0
          have d1 : wr.cell? ⟨g, off + k * 3 + 1, none⟩ = some (.int .i64 V) := by rw [World.cell?_of_block (w := W5) hgx]; exact c1'
          have d2 : wr.cell? ⟨g, off + k * 3 + 2, none⟩ = some (.int .i64 D) := by rw [World.cell?_of_block (w := W5) hgx]; exact c2
          have HR := (show Hid _ from hr)
          have hok : thOk (K, V) := HS1.out.2 _ (List.mem_of_getElem? hr)
          have ik : ((k : Int) < (S.length : Int)) := by omega
          have bt0 := Bk.new (w := wr) #[.int .i64 K, .int .i64 V, .int .i64 D] 96 rfl
          have hbt : Below wr.heap.size wr (wr.alloc (.cells #[.int .i64 K, .int .i64 V, .int .i64 D] 96)) := bAlloc (Below.refl _ _) _
          have hmap' := hmap.keep hbt
          have hx' := hx.trans (Bx.of_below hbt)
          have bM' := ((HKM.out.2.keep HB5.out).keepx hx (by omega)).keep hbt
          have cM := bM'.cell (i := 0) (v := .map (some Wb.heap.size)) rfl
          have hmt := hmap.lt
          clear c0 c1' c2 hgx hr
          gi_upto_region 8 with fail
          clear d0 d1 d2 hmap hx hbt bM'
          generalize wr.heap.size = tb at *
          generalize (wr.alloc (.cells #[.int .i64 K, .int .i64 V, .int .i64 D] 96)) = wt at *
          obtain ⟨st, o1, o2, M', e1, e2, e3, hM', ht', hl2⟩ := MapIs.enter (hmap'.move (w1 := wt.drew) rfl) encT Tryz.underlying98 zeroI hok (tot M (K, V) + D)
          change (Instr.entryStore _ _ (.int .i64 (st : Int)) _).run _ _ = _ at e3
          have e0 := MapIs.look (hmap'.move (w1 := wt.drew) rfl) encT Tryz.underlying98 zeroI hok
          obtain ⟨y0, y1, y2⟩ := bt0.three
          have hsum : -4611686018427387904 ≤ tot M (K, V) + D ∧ tot M (K, V) + D ≤ 4611686018427387904 := by
            have h1 := tot_abs (S.take (k + 1)) (K, V)
            rw [take_snoc HR.out, tot_snoc, if_pos rfl, ← HT.out] at h1
            have h2 := absum_take S (k + 1)
            rw [take_snoc HR.out] at h2
            have := HS1.out.1
            omega
          have HN : Hid (∀ s, tot M' s = tot (S.take (k + 1)) s) := fun s => by
            rw [ht', take_snoc HR.out, tot_snoc]
            by_cases e : (K, V) = s
            · rw [if_pos e, if_pos e, ← HT.out, e]
            · rw [if_neg e, if_neg e, HT.out]; omega
          clear ht'
          obtain ⟨hs1, hs2'⟩ := hsum
          generalize hTT : tot M (K, V) = T at *
          clear hTT
          have iw : IntKind.i64.wrap (T + D) = T + D := by rw [IntKind.wrap_i64]; omega
          have hmix : Tryz.prog.follows .mixedOrders = true := by kernel_rfl
          have hx2 : Bx Wb.heap.size W5 (setBlock wt.drew Wb.heap.size o2) := hx'.drew.putMap o2
          have FIN := (show Hid (MapIs thV thOk (setBlock wt.drew Wb.heap.size o2) Wb.heap.size M' ∧ M'.length ≤ k + 1 ∧ Bx Wb.heap.size W5 (setBlock wt.drew Wb.heap.size o2)) from ⟨hM', by omega, hx2⟩)
          clear hM' hx2 hx' hmap' hl2 bt0
          refine wpIn_region_inv2 (by kernel_rfl) (UqI (.slice a l.length cap) (.func (.func fn) #[] #[]) (.func (.func 153) #[] #[.pointer (some ⟨wb + 1 + 1 + 1, 0, none⟩)]) wb c1 (Wb.heap.size + 1) Wb.heap.size tb X Y t21 (.slice (some ⟨g, off, none⟩) S.length cp5) (.int .i64 (S.length : Nat)) (.int .i64 (k : Nat)) (.pointer (some ⟨g, off + k * 3, none⟩)) (iv K V D) u40 K V D T st wt.drew (setBlock wt.drew Wb.heap.size o1) (setBlock wt.drew Wb.heap.size o2)) ?hg ?hs ?h0 ?hstep ?hend
          case hg =>
            intro i op ho
            have hi : i < 13 := (Array.getElem?_eq_some_iff.1 ho).1
            obtain rfl | rfl | rfl | rfl | rfl | rfl | rfl | rfl | rfl | rfl | rfl | rfl | rfl : i = 0 ∨ i = 1 ∨ i = 2 ∨ i = 3 ∨ i = 4 ∨ i = 5 ∨ i = 6 ∨ i = 7 ∨ i = 8 ∨ i = 9 ∨ i = 10 ∨ i = 11 ∨ i = 12 := by omega
            all_goals cases ho; rfl
          case hs => intro L a W hI; exact hI.sz
          case h0 => exact ⟨by simp, fun _ => rfl, fun e => by simp at e, fun e => by simp at e, _, _, _, _, _, _, _, _, _, _, _, _, rfl, fun e => by simp at e, fun e => by simp at e, fun e => by simp at e, fun e => by simp at e, fun e => by simp at e, fun e => by simp at e, fun e => by simp at e, fun e => by simp at e, fun e => by simp at e, fun e => by simp at e, fun e => by simp at e, fun e => by simp at e⟩
          case hend =>
            rintro L ac W ⟨hLs, wA, wB, wC, t28, t29, t30, t31, t32, t33, t34, t35, t36, t37, t38, t39, rfl, s0, s1, s2, s3, s4, s5, s6, s7, s8, s9, s10, s11⟩ hr
            have hallL : ∀ j, j < 13 → L.getD j false = true := by
              refine all_listed2 (by simpa using hLs) ?_ hr
              intro i op ho
              have hi : i < 13 := (Array.getElem?_eq_some_iff.1 ho).1
              obtain rfl | rfl | rfl | rfl | rfl | rfl | rfl | rfl | rfl | rfl | rfl | rfl | rfl : i = 0 ∨ i = 1 ∨ i = 2 ∨ i = 3 ∨ i = 4 ∨ i = 5 ∨ i = 6 ∨ i = 7 ∨ i = 8 ∨ i = 9 ∨ i = 10 ∨ i = 11 ∨ i = 12 := by omega
              all_goals cases ho
              all_goals (first | (simp; done) | (simp [Region.binds]; done) | decide)
            have hW := wC (hallL 12 (by omega))
            subst hW
            clear hallL hr wA wB wC s0 s1 s2 s3 s4 s5 s6 s7 s8 s9 s10 s11 hLs
            dsimp only [upT]
            gi_wp2
            exact ⟨⟨k + 1, M', by omega, by go_num, FIN.out.1, HN.out, FIN.out.2.1, FIN.out.2.2⟩, by simp [intOf]; omega⟩
          case hstep =>
            rintro L ac W i op hdc ⟨hLs, wA, wB, wC, t28, t29, t30, t31, t32, t33, t34, t35, t36, t37, t38, t39, rfl, s0, s1, s2, s3, s4, s5, s6, s7, s8, s9, s10, s11⟩ hi ho
            obtain ⟨hun, o', ho', hall⟩ := mem_ready.1 hi
            rw [ho] at ho'
            cases ho'
            have hi13 : i < 13 := (Array.getElem?_eq_some_iff.1 ho).1
            clear hi
            generalize hK : (fun a' w' => UqI (.slice a l.length cap) (.func (.func fn) #[] #[]) (.func (.func 153) #[] #[.pointer (some ⟨wb + 1 + 1 + 1, 0, none⟩)]) wb c1 (Wb.heap.size + 1) Wb.heap.size tb X Y t21 (.slice (some ⟨g, off, none⟩) S.length cp5) (.int .i64 (S.length : Nat)) (.int .i64 (k : Nat)) (.pointer (some ⟨g, off + k * 3, none⟩)) (iv K V D) u40 K V D T st wt.drew (setBlock wt.drew Wb.heap.size o1) (setBlock wt.drew Wb.heap.size o2) (L.setIfInBounds i true) a' w') = K'
            obtain rfl | rfl | rfl | rfl | rfl | rfl | rfl | rfl | rfl | rfl | rfl | rfl | rfl : i = 0 ∨ i = 1 ∨ i = 2 ∨ i = 3 ∨ i = 4 ∨ i = 5 ∨ i = 6 ∨ i = 7 ∨ i = 8 ∨ i = 9 ∨ i = 10 ∨ i = 11 ∨ i = 12 := by omega
            · cases ho
              have h10 : L.getD 10 true = false := shut_false hun (by omega) (by omega) (fun e => hdc 10 _ rfl e ⟨0, .phase⟩ (by simp) rfl)
              have hW := wA h10
              subst hW
              clear e0 e1 e2 e3
              have cM' := cell_drew cM
              have z0 := cell_drew y0
              have z1 := cell_drew y1
              have z2 := cell_drew y2
              go_simp
              subst hK
              exact uqI_mk 0 hLs (fun _ => rfl) (fun e => by rcases getD_put e with e | e; (exact absurd e (by omega)); (rw [getD_tf2 h10 hLs (by omega)] at e; cases e)) (fun e => by rcases getD_put e with e | e; (exact absurd e (by omega)); exact wC e) (fun _ => rfl) (ne_or s1 (by omega)) (ne_or s2 (by omega)) (ne_or s3 (by omega)) (ne_or s4 (by omega)) (ne_or s5 (by omega)) (ne_or s6 (by omega)) (ne_or s7 (by omega)) (ne_or s8 (by omega)) (ne_or s9 (by omega)) (ne_or s10 (by omega)) (ne_or s11 (by omega))
            · cases ho
              have h10 : L.getD 10 true = false := shut_false hun (by omega) (by omega) (fun e => hdc 10 _ rfl e ⟨1, .phase⟩ (by simp) rfl)
              have hW := wA h10
              subst hW
              clear e0 e1 e2 e3
              have cM' := cell_drew cM
              have z0 := cell_drew y0
              have z1 := cell_drew y1
              have z2 := cell_drew y2
              go_simp
              subst hK
              exact uqI_mk 1 hLs (fun _ => rfl) (fun e => by rcases getD_put e with e | e; (exact absurd e (by omega)); (rw [getD_tf2 h10 hLs (by omega)] at e; cases e)) (fun e => by rcases getD_put e with e | e; (exact absurd e (by omega)); exact wC e) (ne_or s0 (by omega)) (fun _ => rfl) (ne_or s2 (by omega)) (ne_or s3 (by omega)) (ne_or s4 (by omega)) (ne_or s5 (by omega)) (ne_or s6 (by omega)) (ne_or s7 (by omega)) (ne_or s8 (by omega)) (ne_or s9 (by omega)) (ne_or s10 (by omega)) (ne_or s11 (by omega))
            · cases ho
              have h10 : L.getD 10 true = false := shut_false hun (by omega) (by omega) (fun e => hdc 10 _ rfl e ⟨2, .phase⟩ (by simp) rfl)
              have hW := wA h10
              subst hW
              have e41 := s1 (hall ⟨1, .data⟩ (by simp) rfl)
              subst e41
              clear e0 e1 e2 e3
              have cM' := cell_drew cM
              have z0 := cell_drew y0
              have z1 := cell_drew y1
              have z2 := cell_drew y2
              go_simp
              subst hK
              exact uqI_mk 2 hLs (fun _ => rfl) (fun e => by rcases getD_put e with e | e; (exact absurd e (by omega)); (rw [getD_tf2 h10 hLs (by omega)] at e; cases e)) (fun e => by rcases getD_put e with e | e; (exact absurd e (by omega)); exact wC e) (ne_or s0 (by omega)) (fun _ => rfl) (fun _ => rfl) (ne_or s3 (by omega)) (ne_or s4 (by omega)) (ne_or s5 (by omega)) (ne_or s6 (by omega)) (ne_or s7 (by omega)) (ne_or s8 (by omega)) (ne_or s9 (by omega)) (ne_or s10 (by omega)) (ne_or s11 (by omega))
            · cases ho
              have h10 : L.getD 10 true = false := shut_false hun (by omega) (by omega) (fun e => hdc 10 _ rfl e ⟨3, .phase⟩ (by simp) rfl)
              have hW := wA h10
              subst hW
              clear e0 e1 e2 e3
              have cM' := cell_drew cM
              have z0 := cell_drew y0
              have z1 := cell_drew y1
              have z2 := cell_drew y2
              go_simp
              subst hK
              exact uqI_mk 3 hLs (fun _ => rfl) (fun e => by rcases getD_put e with e | e; (exact absurd e (by omega)); (rw [getD_tf2 h10 hLs (by omega)] at e; cases e)) (fun e => by rcases getD_put e with e | e; (exact absurd e (by omega)); exact wC e) (ne_or s0 (by omega)) (ne_or s1 (by omega)) (ne_or s2 (by omega)) (fun _ => rfl) (ne_or s4 (by omega)) (ne_or s5 (by omega)) (ne_or s6 (by omega)) (ne_or s7 (by omega)) (ne_or s8 (by omega)) (ne_or s9 (by omega)) (ne_or s10 (by omega)) (ne_or s11 (by omega))
            · cases ho
              have h10 : L.getD 10 true = false := shut_false hun (by omega) (by omega) (fun e => hdc 10 _ rfl e ⟨4, .phase⟩ (by simp) rfl)
              have hW := wA h10
              subst hW
              have e43 := s3 (hall ⟨3, .data⟩ (by simp) rfl)
              subst e43
              clear e0 e1 e2 e3
              have cM' := cell_drew cM
              have z0 := cell_drew y0
              have z1 := cell_drew y1
              have z2 := cell_drew y2
              go_simp
              subst hK
              exact uqI_mk 4 hLs (fun _ => rfl) (fun e => by rcases getD_put e with e | e; (exact absurd e (by omega)); (rw [getD_tf2 h10 hLs (by omega)] at e; cases e)) (fun e => by rcases getD_put e with e | e; (exact absurd e (by omega)); exact wC e) (ne_or s0 (by omega)) (ne_or s1 (by omega)) (ne_or s2 (by omega)) (fun _ => rfl) (fun _ => rfl) (ne_or s5 (by omega)) (ne_or s6 (by omega)) (ne_or s7 (by omega)) (ne_or s8 (by omega)) (ne_or s9 (by omega)) (ne_or s10 (by omega)) (ne_or s11 (by omega))
            · cases ho
              have h10 : L.getD 10 true = false := shut_false hun (by omega) (by omega) (fun e => hdc 10 _ rfl e ⟨5, .phase⟩ (by simp) rfl)
              have hW := wA h10
              subst hW
              have e42 := s2 (hall ⟨2, .data⟩ (by simp) rfl)
              have e44 := s4 (hall ⟨4, .data⟩ (by simp) rfl)
              subst e42 e44
              clear e0 e1 e2 e3
              have cM' := cell_drew cM
              have z0 := cell_drew y0
              have z1 := cell_drew y1
              have z2 := cell_drew y2
              go_simp
              subst hK
              exact uqI_mk 5 hLs (fun _ => rfl) (fun e => by rcases getD_put e with e | e; (exact absurd e (by omega)); (rw [getD_tf2 h10 hLs (by omega)] at e; cases e)) (fun e => by rcases getD_put e with e | e; (exact absurd e (by omega)); exact wC e) (ne_or s0 (by omega)) (ne_or s1 (by omega)) (fun _ => rfl) (ne_or s3 (by omega)) (fun _ => rfl) (fun _ => rfl) (ne_or s6 (by omega)) (ne_or s7 (by omega)) (ne_or s8 (by omega)) (ne_or s9 (by omega)) (ne_or s10 (by omega)) (ne_or s11 (by omega))
            · cases ho
              have e40 := s0 (hall ⟨0, .data⟩ (by simp) rfl)
              have e45 := s5 (hall ⟨5, .data⟩ (by simp) rfl)
              subst e40 e45
              have h12 : L.getD 12 true = false := shut_false hun (by omega) (by omega) (fun e => hdc 9 _ rfl (hdc 12 _ rfl e ⟨9, .data⟩ (by simp) rfl) ⟨6, .data⟩ (by simp) rfl)
              cases h10 : L.getD 10 true
              · have hW := wA h10
                subst hW
                clear e1 e2 e3
                go_simp
                subst hK
                exact uqI_mk 6 hLs (fun _ => rfl) (fun e => by rcases getD_put e with e | e; (exact absurd e (by omega)); (rw [getD_tf2 h10 hLs (by omega)] at e; cases e)) (fun e => by rcases getD_put e with e | e; (exact absurd e (by omega)); exact wC e) (fun _ => rfl) (ne_or s1 (by omega)) (ne_or s2 (by omega)) (ne_or s3 (by omega)) (ne_or s4 (by omega)) (fun _ => rfl) (fun _ => rfl) (ne_or s7 (by omega)) (ne_or s8 (by omega)) (ne_or s9 (by omega)) (ne_or s10 (by omega)) (ne_or s11 (by omega))
              · have hW := wB (getD_tt2 h10 hLs (by omega)) h12
                subst hW
                clear e0 e1 e3
                go_simp
                subst hK
                exact uqI_mk 6 hLs (fun e => by rw [getD_setT (by decide) e] at h10; cases h10) (fun _ _ => rfl) (fun e => by rcases getD_put e with e | e; (exact absurd e (by omega)); exact wC e) (fun _ => rfl) (ne_or s1 (by omega)) (ne_or s2 (by omega)) (ne_or s3 (by omega)) (ne_or s4 (by omega)) (fun _ => rfl) (fun _ => rfl) (ne_or s7 (by omega)) (ne_or s8 (by omega)) (ne_or s9 (by omega)) (ne_or s10 (by omega)) (ne_or s11 (by omega))
            · cases ho
              have h10 : L.getD 10 true = false := shut_false hun (by omega) (by omega) (fun e => hdc 10 _ rfl e ⟨7, .phase⟩ (by simp) rfl)
              have hW := wA h10
              subst hW
              clear e0 e1 e2 e3
              have cM' := cell_drew cM
              have z0 := cell_drew y0
              have z1 := cell_drew y1
              have z2 := cell_drew y2
              go_simp
              subst hK
              exact uqI_mk 7 hLs (fun _ => rfl) (fun e => by rcases getD_put e with e | e; (exact absurd e (by omega)); (rw [getD_tf2 h10 hLs (by omega)] at e; cases e)) (fun e => by rcases getD_put e with e | e; (exact absurd e (by omega)); exact wC e) (ne_or s0 (by omega)) (ne_or s1 (by omega)) (ne_or s2 (by omega)) (ne_or s3 (by omega)) (ne_or s4 (by omega)) (ne_or s5 (by omega)) (ne_or s6 (by omega)) (fun _ => rfl) (ne_or s8 (by omega)) (ne_or s9 (by omega)) (ne_or s10 (by omega)) (ne_or s11 (by omega))
            · cases ho
              have h10 : L.getD 10 true = false := shut_false hun (by omega) (by omega) (fun e => hdc 10 _ rfl e ⟨8, .phase⟩ (by simp) rfl)
              have hW := wA h10
              subst hW
              have e47 := s7 (hall ⟨7, .data⟩ (by simp) rfl)
              subst e47
              clear e0 e1 e2 e3
              have cM' := cell_drew cM
              have z0 := cell_drew y0
              have z1 := cell_drew y1
              have z2 := cell_drew y2
              go_simp
              subst hK
              exact uqI_mk 8 hLs (fun _ => rfl) (fun e => by rcases getD_put e with e | e; (exact absurd e (by omega)); (rw [getD_tf2 h10 hLs (by omega)] at e; cases e)) (fun e => by rcases getD_put e with e | e; (exact absurd e (by omega)); exact wC e) (ne_or s0 (by omega)) (ne_or s1 (by omega)) (ne_or s2 (by omega)) (ne_or s3 (by omega)) (ne_or s4 (by omega)) (ne_or s5 (by omega)) (ne_or s6 (by omega)) (fun _ => rfl) (fun _ => rfl) (ne_or s9 (by omega)) (ne_or s10 (by omega)) (ne_or s11 (by omega))
            · cases ho
              have e46 := s6 (hall ⟨6, .data⟩ (by simp) rfl)
              have e48 := s8 (hall ⟨8, .data⟩ (by simp) rfl)
              subst e46 e48
              clear e0 e1 e2 e3
              go_simp
              subst hK
              exact uqI_mk 9 hLs (fun e => wA (getD_setT (by decide) e)) (fun e e' => wB ((getD_put e).resolve_left (by omega)) (getD_setT (by decide) e')) (fun e => by rcases getD_put e with e | e; (exact absurd e (by omega)); exact wC e) (ne_or s0 (by omega)) (ne_or s1 (by omega)) (ne_or s2 (by omega)) (ne_or s3 (by omega)) (ne_or s4 (by omega)) (ne_or s5 (by omega)) (fun _ => rfl) (ne_or s7 (by omega)) (fun _ => rfl) (fun _ => rfl) (ne_or s10 (by omega)) (ne_or s11 (by omega))
            · cases ho
              have e40 := s0 (hall ⟨0, .data⟩ (by simp) rfl)
              have e45 := s5 (hall ⟨5, .data⟩ (by simp) rfl)
              subst e40 e45
              have hW := wA hun
              subst hW
              clear e0 e2 e3
              go_simp
              subst hK
              exact uqI_mk 10 hLs (fun e => by simp [hLs] at e) (fun _ _ => rfl) (fun e => by rcases getD_put e with e | e; (exact absurd e (by omega)); (rw [getD_tf2 (shut_false hun (by omega) (by omega) (fun e => hdc 12 _ rfl e ⟨10, .chain⟩ (by simp) rfl)) hLs (by omega)] at e; cases e)) (fun _ => rfl) (ne_or s1 (by omega)) (ne_or s2 (by omega)) (ne_or s3 (by omega)) (ne_or s4 (by omega)) (fun _ => rfl) (ne_or s6 (by omega)) (ne_or s7 (by omega)) (ne_or s8 (by omega)) (ne_or s9 (by omega)) (fun _ => rfl) (ne_or s11 (by omega))
            · cases ho
              have e50 := s10 (hall ⟨10, .data⟩ (by simp) rfl)
              subst e50
              clear e0 e1 e2 e3
              go_simp
              subst hK
              exact uqI_mk 11 hLs (fun e => wA (getD_setT (by decide) e)) (fun e e' => wB ((getD_put e).resolve_left (by omega)) (getD_setT (by decide) e')) (fun e => by rcases getD_put e with e | e; (exact absurd e (by omega)); exact wC e) (ne_or s0 (by omega)) (ne_or s1 (by omega)) (ne_or s2 (by omega)) (ne_or s3 (by omega)) (ne_or s4 (by omega)) (ne_or s5 (by omega)) (ne_or s6 (by omega)) (ne_or s7 (by omega)) (ne_or s8 (by omega)) (ne_or s9 (by omega)) (fun _ => rfl) (fun _ => rfl)
            · cases ho
              have e40 := s0 (hall ⟨0, .data⟩ (by simp) rfl)
              have e51 := s11 (hall ⟨11, .data⟩ (by simp) rfl)
              have e49 := s9 (hall ⟨9, .data⟩ (by simp) rfl)
              subst e40 e51 e49
              have h10 := hall ⟨10, .chain⟩ (by simp) rfl
              have e50 := s10 h10
              subst e50
              have hW := wB h10 hun
              subst hW
              clear e0 e1 e2
              go_simp
              subst hK
              exact uqI_mk 12 hLs (fun e => (getD_no h10 (getD_setT (by decide) e)).elim) (fun _ e => by simp [hLs] at e) (fun _ => rfl) (fun _ => rfl) (ne_or s1 (by omega)) (ne_or s2 (by omega)) (ne_or s3 (by omega)) (ne_or s4 (by omega)) (ne_or s5 (by omega)) (ne_or s6 (by omega)) (ne_or s7 (by omega)) (ne_or s8 (by omega)) (fun _ => rfl) (fun _ => rfl) (fun _ => rfl)
        · obtain rfl : k = S.length := by omega
          have hbW : Below Wb.heap.size Wb wr := hx.below (HBM.out.trans (HB5.out.mono (by omega))) (by have := HB5.out.size; omega) (Nat.le_refl _)
          have told := HV.out.1.keep hbW
          obtain ⟨x0, x1, _, _⟩ := (HV.out.2.2.keep hbW).two
          obtain ⟨adv, cpv, rfl, -⟩ := Rs.open (OwnR.rs HV.out.2.1 (by omega))
          have cT := told.cell (i := 0) (v := .slice adv (chgT kind l pre).length cpv) rfl
          have HT2 : Hid (∀ s, tot M s = tot S s) := fun s => by rw [HT.out, List.take_length]
          have bM' := (HKM.out.2.keep HB5.out).keepx hx (by omega)
          gi_wp2
          refine ⟨trivial, ?_⟩
          refine CallsIn.inRound lq (CallsIn.mono (callsIn_wide.2 (there_any _ _ _ _ _ _)) ?_)
          rintro e Wi ⟨rfl, hWi⟩
          have hbi : Below wr.heap.size wr Wi := by rw [hWi]; exact bAlloc (bAlloc (Below.refl _ _) _) _
          have b1i : Bk Wi wr.heap.size #[.slice adv (chgT kind l pre).length cpv] 23 := by rw [hWi]; exact (Bk.new (w := wr) _ _ rfl).alloc _
          have b2i : Bk Wi (wr.heap.size + 1) #[.int .i64 X, .int .i64 Y] 35 := by rw [hWi]; exact Bk.new (w := wr.alloc _) _ _ (by simp)
          have hszi : Wi.heap.size = wr.heap.size + 1 + 1 := by rw [hWi]; simp
          have mI := hmap.keep hbi
          have bMi := bM'.keep hbi
          have hbWi := bStep hbW hbi
          have hlqi : Wi.heap[lq]? = some (.loop rq) := by rw [hbWi.block lq (Array.getElem?_eq_some_iff.1 HRQ.out).1]; exact HRQ.out
          clear hWi hmap bM' told x0 x1 cT hx
          gi_wp2
          have hWW := bMi.lt
          have HSI := (show Hid (Wi.heap.size = wr.heap.size + 1 + 1) from hszi)
          have hwrW : Wb.heap.size ≤ wr.heap.size := hbW.size
          have HRo : Rs Wb (.slice adv (chgT kind l pre).length cpv) (chgT kind l pre) := OwnR.rs HV.out.2.1 (by omega)
          clear hbi hbW hszi
          have hrbW : wr.heap.size < Wi.heap.size := by have := HSI.out; omega
          generalize wr.heap.size = rb at *
          refine wpIn_rangeFunc_ownN (l₀ := lq) (r₀ := rq) rfl hlqi (by omega) (gf := 145) (lb := #[.pointer (some ⟨rb, 0, none⟩), .pointer (some ⟨rb + 1, 0, none⟩)]) rfl trivial (enters_of Tryz.func145 (by kernel_rfl) rfl)
            (seqStops_n 3 lq (there_stops rb (rb + 1) Wb.heap.size adv cpv (chgT kind l pre) X Y Wb Wi (by omega) (fun r hr => (HCR.out r hr).1) HRo (fun g hg => ⟨by omega, by omega⟩) (fun k hk => hbWi.block k hk) b1i b2i (by omega)))
            (fun h k => h.trans k) (fun W lp o o' hN ho _ _ => Kx.put W lp o o' hN ho) (Below.refl _ _) (fun _ => rfl)
            (fun p2 W => (∃ M2 : List It, MapIs thV thOk W Wb.heap.size M2 ∧ (∀ s, tot M2 s = tot S s - tot (p2.map (·.1)) s) ∧ M2.length ≤ S.length + p2.length) ∧ Bk W (Wb.heap.size + 1) #[.map (some Wb.heap.size)] 98 ∧ Below Wb.heap.size Wb W ∧ Wi.heap.size ≤ W.heap.size)
            (fun _ _ _ => False)
            (fun p2 A B row hs hg hr => by
              obtain ⟨⟨M2, h1, h2, h3⟩, h4, h5, h6⟩ := hs
              exact ⟨⟨M2, h1.grown hg (fun r e => by have := (hr r e).1; omega), h2, h3⟩, Bk.grew h4 hg (fun r e => by have := (hr r e).1; omega), Below.grew h5 hg (by have := h4.lt; omega) (fun r e => by have := (hr r e).1; omega), Nat.le_trans h6 hg.size⟩)
            (fun _ _ _ _ _ hs _ _ => hs)
            ⟨⟨M, mI, fun s => by rw [HT2.out]; simp [tot], by simp; omega⟩, bMi, hbWi, Nat.le_refl _⟩
            (fun z a' W => ∃ Bq, Wi.heap.size ≤ Bq ∧ Bk W Bq #[.int .i64 z.1.1.1, .int .i64 z.1.1.2] 103 ∧ a' = { tmps := #[.slice a l.length cap, .func (.func fn) #[] #[], .pointer (some ⟨wb, 0, none⟩), .pointer (some ⟨wb + 1, 0, none⟩), .slice none 0 0, .pointer (some ⟨wb + 1 + 1, 0, none⟩), .pointer (some ⟨c1, 0, none⟩), .pointer (some ⟨Wb.heap.size + 1, 0, none⟩), undef, u9, .pointer (some ⟨Bq, 0, none⟩), .int .i64 z.1.2, undef, undef, .slice a l.length cap, .func (.func 153) #[] #[.pointer (some ⟨wb + 1 + 1 + 1, 0, none⟩)], tv X Y, .map (some Wb.heap.size), .func (.func fn) #[] #[], .slice a l.length cap, tv X Y, t21, .slice a5 S.length cp5, .int .i64 (S.length : Nat), .int .i64 (S.length : Nat), .bool false, u26, u27, u28, u29, u30, u31, u32, u33, u34, u35, u36, u37, u38, u39, u40, .slice adv (chgT kind l pre).length cpv, tv X Y, .func (.func 145) #[] #[.pointer (some ⟨rb, 0, none⟩), .pointer (some ⟨rb + 1, 0, none⟩)], thV z.1.1, .int .i64 z.1.2, undef, undef, undef, undef, undef, undef, undef, undef, undef, undef, undef, undef, undef, undef, undef, undef, undef, undef, undef, undef, undef, undef, undef, undef, undef, undef, undef], defers := [] })
            (fun z a' _ A B row hs hg hr => by
              obtain ⟨Bq, h1, h2, h3⟩ := hs
              exact ⟨Bq, h1, Bk.grew h2 hg (fun r e e' => by
                obtain ⟨_, o, h4, h5⟩ := hr r e
                subst e'
                unfold Bk at h2
                rw [h2] at h4
                cases h4
                cases h5), h3⟩)
            ?assign2 ?body2 ?done2 ?stop2
          case assign2 =>
            rintro lp p2 z W K ⟨⟨M2, h1, h2, h3⟩, h4, h5, h6⟩ hK
            gi_wp2
            refine hK _ _ ((KeepsOthers.alloc _ _).from _) ⟨by simp, fun k hk _ => Below.heap_alloc _ _ _ (by omega)⟩ ⟨⟨M2, h1.keep (bAlloc (Below.refl _ _) _), h2, h3⟩, h4.alloc _, bAllocT h5 (by omega) _, by simp; omega⟩ ⟨W.heap.size, h6, Bk.new _ _ rfl, rfl⟩
          case body2 =>
            rintro lp p2 z a' W hlp - ⟨⟨M2, h1, h2, h3⟩, h4, h5, h6⟩ ⟨Bq, hBq, hq, rfl⟩ hltp
            obtain ⟨⟨⟨K, V⟩, D⟩, hth, hD1, hD2⟩ := z
            have H2 := (show Hid _ from h2)
            clear h2
            obtain ⟨st, o1, o2, M', e1, e2, e3, hM', ht', hl'⟩ := MapIs.enter (h1.move (w1 := W.drew) rfl) encT Tryz.underlying98 zeroI hth (tot M2 (K, V) - D)
            change (Instr.entryStore _ _ (.int .i64 (st : Int)) _).run _ _ = _ at e3
            have e0 := MapIs.look (h1.move (w1 := W.drew) rfl) encT Tryz.underlying98 zeroI hth
            have HN : Hid (∀ s, tot M' s = tot S s - tot ((p2 ++ [⟨((K, V), D), hth, hD1, hD2⟩] : List XI).map (·.1)) s) := fun s => by
              rw [ht', List.map_append]
              show _ = tot S s - tot (p2.map (·.1) ++ [((K, V), D)]) s
              rw [tot_snoc]
              by_cases e : (K, V) = s
              · rw [if_pos e, if_pos e, e, H2.out]; omega
              · rw [if_neg e, if_neg e, H2.out]; omega
            have hsum : -4611686018427387904 ≤ tot M2 (K, V) - D ∧ tot M2 (K, V) - D ≤ 4611686018427387904 := by
              have h1 := tot_abs (p2.map (·.1)) (K, V)
              have h2 := xi_abs p2
              have h3 := tot_abs S (K, V)
              have h4 := HS1.out.1
              have h5 := H2.out (K, V)
              omega
            clear ht'
            obtain ⟨hs1, hs2'⟩ := hsum
            generalize hT : tot M2 (K, V) = T at *
            clear hT
            have iw : IntKind.i64.wrap (T - D) = T - D := by rw [IntKind.wrap_i64]; omega
            have c0 := h4.cell (i := 0) (v := .map (some Wb.heap.size)) rfl
            obtain ⟨q0, q1, _, _⟩ := hq.two
            dsimp only at q0 q1
            have hmix : Tryz.prog.follows .mixedOrders = true := by kernel_rfl
            have FIN : Hid (KeepsFrom Wi.heap.size W (setBlock W.drew Wb.heap.size o2) ∧ Kx Wi.heap.size Wb.heap.size W (setBlock W.drew Wb.heap.size o2) ∧
                ((∃ M2 : List It, MapIs thV thOk (setBlock W.drew Wb.heap.size o2) Wb.heap.size M2 ∧ (∀ s, tot M2 s = tot S s - tot ((p2 ++ [⟨((K, V), D), hth, hD1, hD2⟩] : List XI).map (·.1)) s) ∧ M2.length ≤ S.length + (p2 ++ [⟨((K, V), D), hth, hD1, hD2⟩] : List XI).length) ∧ Bk (setBlock W.drew Wb.heap.size o2) (Wb.heap.size + 1) #[.map (some Wb.heap.size)] 98 ∧ Below Wb.heap.size Wb (setBlock W.drew Wb.heap.size o2) ∧ Wi.heap.size ≤ (setBlock W.drew Wb.heap.size o2).heap.size)) := by
              have hz : (setBlock W.drew Wb.heap.size o2).heap.size = W.heap.size := size_setBlock W.drew Wb.heap.size o2
              refine ⟨⟨by rw [hz]; exact Nat.le_refl _, fun k o hB hk _ => ?_⟩, ⟨by rw [hz]; exact Nat.le_refl _, fun k _ hm => ?_⟩, ⟨M', hM', HN.out, by simp; omega⟩, ?_, below_setBlock h5.drew (Nat.le_refl _), by rw [hz]; exact h6⟩
              · rw [setBlock_at (by omega)]; exact hk
              · rw [setBlock_at hm]; rfl
              · unfold Bk; rw [setBlock_at (by omega)]; exact h4
            clear HN hM' h1 h4 hq
            gi_wp2
            gi_region_with_o (fail)
            all_goals gi_wp2
            all_goals exact FIN.out
          case stop2 =>
            rintro c pre W _ h
            exact h.elim
          case done2 =>
            rintro xs W hS ⟨⟨M2, h1, h2, h3⟩, h4, h5, h6⟩
            have c0 := h4.cell (i := 0) (v := .map (some Wb.heap.size)) rfl
            have HE : Hid (sumL ltT M2 = difAt kind l (X, Y)) := HLK.out M2 (fun s => by rw [h2, hS])
            have hxl : xs.length ≤ 102400 := by
              have h1 := congrArg List.length hS
              have h2 := atL_len (chgT kind l pre) X Y
              rw [List.length_map] at h1
              omega
            have HB7 := (show Hid (Below Wb.heap.size Wb W) from h5)
            clear h2 hS b1i b2i mI bMi hbWi hlqi HRo h5 h4
            gi_wp2
            refine ⟨trivial, ?_⟩
            refine CallsIn.inRound lq (CallsIn.mono (callsIn_wide.2 (itemsOf_any Wb.heap.size M2 W h1 (by omega))) ?_)
            rintro e W7 ⟨o7, rfl, own7, hb7⟩
            rw [HE.out] at own7
            have hbb := bStep HB7.out hb7
            have hd7 := dif_len kind l (X, Y)
            have LS : Hid (LpS wb w W0 Wb c1 X Y (chgT kind l pre) (difAt kind l (X, Y)) o7 (.slice adv (chgT kind l pre).length cpv) 0 W7) :=
              ⟨keepsFrom_below hbb, KpA.below hbb HV.out.1.lt, HV.out.1.keep hbb, by have := own_keep HV.out.2.1 hbb; simpa [stamp] using this, bStepL HWB.out H5.out hbb, H6.out.trans (Kx.of_below hbb hs6), ⟨_, own7⟩, HV.out.2.2.keep hbb⟩
            obtain ⟨a7, cp7, e7, -⟩ := Is.open (OwnI.is own7 (by omega))
            subst e7
            clear own7 hb7 hbb h1 c0
            gi_wp2
            gi_loopw [56] (fun i wq => ∃ (k : Nat) (v : Value), k ≤ (difAt kind l (X, Y)).length ∧ i = .int .i64 k ∧ LpS wb w W0 Wb c1 X Y (chgT kind l pre) (difAt kind l (X, Y)) (.slice a7 (difAt kind l (X, Y)).length cp7) v k wq) (fun i _ => (difAt kind l (X, Y)).length - (intOf i).toNat)
            case atStart => exact ⟨0, _, by omega, rfl, LS.out⟩
            case round =>
              clear LS
              obtain ⟨k, v2, hkD, rfl, hLS⟩ := hrel
              have LS := (show Hid (LpS wb w W0 Wb c1 X Y (chgT kind l pre) (difAt kind l (X, Y)) (.slice a7 (difAt kind l (X, Y)).length cp7) v2 k wr) from hLS)
              have hln : (chgT kind l pre ++ stamp (X, Y) ((difAt kind l (X, Y)).take k)).length ≤ 200000 := by rw [List.length_append, stamp_len, List.length_take]; omega
              by_cases hlk : k < (difAt kind l (X, Y)).length
              · obtain ⟨B7, own7⟩ := hLS.items
                obtain ⟨a8, cp8, e8, -, -, -, hcells⟩ := Is.open (OwnI.is own7 (by omega))
                obtain ⟨g, off, K, V, D, e9, hgl, hr, d0, d1, d2⟩ := hcells k hlk
                cases e8
                cases e9
                have ik : ((k : Int) < ((difAt kind l (X, Y)).length : Int)) := by omega
                have bI : Bk (wr.alloc (.cells #[.int .i64 K, .int .i64 V, .int .i64 D] 96)) wr.heap.size #[.int .i64 K, .int .i64 V, .int .i64 D] 96 := Bk.new _ _ rfl
                have hbA : Below wr.heap.size wr (wr.alloc (.cells #[.int .i64 K, .int .i64 V, .int .i64 D] 96)) := bAlloc (Below.refl _ _) _
                have hbB : Below wr.heap.size wr ((wr.alloc (.cells #[.int .i64 K, .int .i64 V, .int .i64 D] 96)).alloc (.cells #[.int .i64 K, .int .i64 V, .int .i64 X, .int .i64 Y, .int .i64 D] 41)) := bAlloc hbA _
                have bR : Bk ((wr.alloc (.cells #[.int .i64 K, .int .i64 V, .int .i64 D] 96)).alloc (.cells #[.int .i64 K, .int .i64 V, .int .i64 X, .int .i64 Y, .int .i64 D] 41)) (wr.heap.size + 1) #[.int .i64 K, .int .i64 V, .int .i64 X, .int .i64 Y, .int .i64 D] 41 := Bk.new _ _ (by simp)
                obtain ⟨y0, y1, y2⟩ := bI.three
                have cv := (hLS.box.keep hbA).cell (i := 0) (v := v2) rfl
                obtain ⟨x0, x1, _, _⟩ := (hLS.tm.keep hbA).two
                obtain ⟨u, W9, hrun, ⟨qa, qn, qc, rfl⟩, fz, cz, LS2⟩ := hLS.app hr hbB bR hmW hln 23
                have LS3 := (show Hid (LpS wb w W0 Wb c1 X Y (chgT kind l pre) (difAt kind l (X, Y)) _ (.slice (some qa) qn qc) (k + 1) (W9.setCell ⟨wb + 1 + 1, 0, none⟩ (.slice (some qa) qn qc))) from LS2)
                clear own7 hcells hr bI hbA hbB bR hLS LS LS2
                gi_wp2_with (gi_at_builtin; refine wpListIn_app1 rfl _ _ _ rfl rfl rfl hrun ?_)
                exact ⟨⟨k + 1, _, by omega, by go_num, LS3.out⟩, by simp [intOf]; omega⟩
              · obtain rfl : k = (difAt kind l (X, Y)).length := by omega
                have HFN : Hid (KeepsFrom W0.heap.size Wb wr ∧ KpA (wb + 1 + 1) Wb wr ∧ ChI kind l wb w W0 (pre ++ [(X, Y)]) wr) := by
                  refine ⟨LS.out.kf, LS.out.kp, ⟨v2, LS.out.box, ?_⟩, LS.out.bel, LS.out.kx⟩
                  rw [HSN.out]
                  have := LS.out.own
                  rw [List.take_length] at this
                  exact this
                clear hLS LS hln
                gi_wp2
                exact HFN.out
  case done =>
    rintro D xs W hD hS ⟨⟨v, h1, h2⟩, h5, h6⟩ hK
    have c0 := h1.cell (i := 0) (v := v) rfl
    subst hS
    have hcl := chgT_len kind l (jtimes l)
    have hj := jtimes_len l
    obtain ⟨adv, cpv, rfl, -⟩ := Rs.open (OwnR.rs h2 (by omega))
    have O3 : Hid (OwnR W W0.heap.size (.slice adv (chgT kind l (jtimes l)).length cpv) (chgT kind l (jtimes l))) := h2
    clear h1 h2
    gi_wp2
    refine ⟨by simp, .inl ⟨_, _, rfl, run_takeDeferred hK, ?_⟩⟩
    refine ⟨_, results_tmp rfl _ _ _, _, rfl, ?_, ?_⟩
    · refine own_less (B := W0.heap.size) ?_ (by have := HWB.out; omega)
      refine ownK_at O3.out fun q e => ?_
      obtain ⟨c, hbc⟩ := ownR_cells O3.out e
      exact (grownBy_putObj' W D (.deferred none)).block q (ownK_lt O3.out q e) (fun e => by cases e; unfold Bk at hbc; rw [hbc] at hK; cases hK)
    · rw [HWB.out]
      exact h5.trans (belowK_b (w := W0) (by omega) W D _ _ hD hK rfl rfl)
end Go.Proofs.YtdbhgocaelmanaaGreat
namespace Go.Proofs.YtdbhgocaelmanaaGreat
open Go.RowKit Go.Shelf
set_option maxHeartbeats 2000000 in
theorem sumOf_1 (w : World) : Calls Tryz.prog 74 #[.int .i64 1] w fun e w' => e = .returned (.tuple #[.func (.func 86) #[] #[], .bool true]) ∧ Below w.heap.size w w' := by
  go_enter Tryz.func74, Tryz.ntmps74
  go_wp2_with fail
  refine bodyPost_ret (by simp [results, Tryz.results74, go_sem]; try rfl) rfl ?_
  exact ⟨rfl, Below.refl _ _⟩
set_option maxHeartbeats 2000000 in
theorem sumOf_2 (w : World) : Calls Tryz.prog 74 #[.int .i64 2] w fun e w' => e = .returned (.tuple #[.func (.func 87) #[] #[], .bool true]) ∧ Below w.heap.size w w' := by
  go_enter Tryz.func74, Tryz.ntmps74
  go_wp2_with fail
  refine bodyPost_ret (by simp [results, Tryz.results74, go_sem]; try rfl) rfl ?_
  exact ⟨rfl, Below.refl _ _⟩
set_option maxHeartbeats 2000000 in
theorem sumOf_3 (w : World) : Calls Tryz.prog 74 #[.int .i64 3] w fun e w' => e = .returned (.tuple #[.func (.func 88) #[] #[], .bool true]) ∧ Below w.heap.size w w' := by
  go_enter Tryz.func74, Tryz.ntmps74
  go_wp2_with fail
  refine bodyPost_ret (by simp [results, Tryz.results74, go_sem]; try rfl) rfl ?_
  exact ⟨rfl, Below.refl _ _⟩
set_option maxHeartbeats 2000000 in
theorem sumOf_no (kind : Int) (h : inB kind 1 3 = false) (w : World) : Calls Tryz.prog 74 #[.int .i64 kind] w fun e w' => e = .returned (.tuple #[.nilFunc, .bool false]) ∧ Below w.heap.size w w' := by
  have h' : ¬ (1 ≤ kind ∧ kind ≤ 3) := by simp [inB] at h; omega
  have e1 : (kind == 1) = false := beq_eq_false_iff_ne.2 (by omega)
  have e2 : (kind == 2) = false := beq_eq_false_iff_ne.2 (by omega)
  have e3 : (kind == 3) = false := beq_eq_false_iff_ne.2 (by omega)
  go_enter Tryz.func74, Tryz.ntmps74
  go_wp2_with fail
  refine bodyPost_ret (by simp [results, Tryz.results74, go_sem]; try rfl) rfl ?_
  exact ⟨rfl, Below.refl _ _⟩
set_option maxRecDepth 100000 in
set_option maxHeartbeats 8000000 in
theorem implFlowSum_1 (v : Value) (l : List Rw) (w : World) (h : Rs w v l) :
    Calls Tryz.prog 20 #[v, .int .i64 1] w fun e w' => ∃ o : Value, e = .returned o ∧ OwnR w' w.heap.size o (fsumL l 1) ∧ Below w.heap.size w w' := by
  have HI : Hid (Rs w v l) := h
  cases hk : rokB l
  · have HF : Hid (fsumL l 1 = []) := fsum_no1 hk
    go_enter Tryz.func20, Tryz.ntmps20
    go_wp2_with fail
    refine (sumOf_1 _).mono ?_
    rintro e w1 ⟨rfl, hb1⟩
    go_wp2_with fail
    refine (implRowsOk_eq hk (h.keep hb1)).mono ?_
    rintro e w2 ⟨rfl, hb2⟩
    go_wp2_with fail
    go_ret
    refine ⟨_, rfl, ?_, bStep hb1 hb2⟩
    rw [HF.out]
    exact ownK_nil _ _ _ _ _
  have HF : Hid (fsumL l 1 = sumF (fsumR 1 l)) := fsum_yes hk (by decide)
  have hll := rok_len hk
  have HC : Hid (∀ (key : Int) (W : World) (u : Value), Rs W u (rowsK l key) → Calls Tryz.prog 76 #[u, .func (.func 86) #[] #[]] W fun e w' => ∃ o : Value, e = .returned o ∧ OwnR w' W.heap.size o (chgL 1 (rowsK l key)) ∧ Below W.heap.size W w') := fun key W u hR => by
    obtain ⟨a, cap, rfl, -⟩ := Rs.open hR
    exact callsIn_wide.1 (changes_any 1 86 (enters_of Tryz.func86 (by kernel_rfl) rfl) (fun v s W h => by rw [← sum_count]; exact implSetCount_any v s W h) a cap (rowsK l key) W (rowsK_ok hk key) hR)
  have HL : Hid (∀ k, (accG (fun k => chgL 1 (rowsK l k)) k).length ≤ k * 102400) := accG_len fun k => chgL_len 1 (rowsK l k)
  have HL1 : Hid (∀ k, (chgL 1 (rowsK l k)).length ≤ 102400) := fun k => chgL_len 1 (rowsK l k)
  have H4 : Hid (accG (fun k => chgL 1 (rowsK l k)) 4 = fsumR 1 l) := accG_four 1 l
  have hfl := fsumR_len 1 l
  have hfa := fsumR_abs 1 l
  have HSP : Hid (∀ r ∈ fsumR 1 l, spOk r.1) := fsumR_sp
  go_enter Tryz.func20, Tryz.ntmps20
  go_wp2_with fail
  refine (sumOf_1 _).mono ?_
  rintro e w1 ⟨rfl, hb1⟩
  go_wp2_with fail
  refine (implRowsOk_eq hk (h.keep hb1)).mono ?_
  rintro e w2 ⟨rfl, hb2⟩
  have hbw2 := bStep hb1 hb2
  clear h hb1 hb2
  go_wp2_with fail
  go_loopw [7, 21] (fun o i wr => ∃ k : Nat, k ≤ 4 ∧ i = .int .i64 k ∧ OwnR wr w.heap.size o (accG (fun k => chgL 1 (rowsK l k)) k) ∧ Below w.heap.size w wr) (fun _ i _ => 4 - (intOf i).toNat)
  case atStart => exact ⟨0, by omega, rfl, ownK_nil _ _ _ _ _, hbw2⟩
  case round =>
    clear hbw2
    obtain ⟨k, hk4, rfl, hown, hb⟩ := hrel
    have HO : Hid (OwnR wr w.heap.size u7 (accG (fun k => chgL 1 (rowsK l k)) k)) := hown
    clear hown
    have hsz := hb.size
    by_cases hlt : k < 4
    · have ik : (k : Int) < 4 := by omega
      go_wp2_with fail
      refine (rowsOf_any _ l k _ (HI.out.keep hb) hll).mono ?_
      rintro e w3 ⟨o3, rfl, own3, hb3⟩
      have R3 : Rs w3 o3 (rowsK l k) := OwnR.rs own3 (by have := rowsK_len l k; omega)
      have hbn3 := bStep hb hb3
      have HO3 : Hid (OwnR w3 w.heap.size u7 (accG (fun k => chgL 1 (rowsK l k)) k)) := own_keep HO.out hb3
      clear own3 HO hb hb3
      go_wp2_with fail
      refine (HC.out k w3 o3 R3).mono ?_
      rintro e w4 ⟨o4, rfl, own4, hb4⟩
      have h1 := HL.out k
      have h2 := HL1.out k
      have is4 := OwnR.rs own4 (by omega)
      have hbn4 := bStep hbn3 hb4
      have hsn4 := hbn4.size
      have O4 : OwnR w4 w.heap.size u7 (accG (fun k => chgL 1 (rowsK l k)) k) := own_keep HO3.out hb4
      have HZ : Hid (accG (fun k => chgL 1 (rowsK l k)) (k + 1) = accG (fun k => chgL 1 (rowsK l k)) k ++ chgL 1 (rowsK l k)) := rfl
      clear HO3 hb4 own4 R3 hbn3
      generalize accG (fun k => chgL 1 (rowsK l k)) k = LL at *
      generalize chgL 1 (rowsK l k) = MM at *
      go_wp2_with (at_builtin; refine appRs _ rfl _ _ rfl w.heap.size _ LL rfl O4 _ MM rfl is4 (by omega) (by omega) ?_; intro v5 w5 own5 hg5)
      have hb5 : Below w.heap.size w w5 := Below.grew hbn4 hg5 (by omega) (ownK_base O4)
      exact ⟨⟨k + 1, by omega, by go_num, by rw [HZ.out]; exact own5, hb5⟩, by simp [intOf]; omega⟩
    · obtain rfl : k = 4 := by omega
      rw [H4.out] at HO
      have R4 := OwnR.rs HO.out (by omega)
      go_wp2_with fail
      refine (batchOf_any _ _ _ R4 (by omega) (by omega) HSP.out).mono ?_
      rintro e w6 ⟨o6, rfl, own6, hb6⟩
      have O6 : Hid (OwnR w6 wr.heap.size o6 (sumF (fsumR 1 l))) := own6
      clear own6
      go_wp2_with fail
      go_ret
      exact ⟨_, rfl, by rw [HF.out]; exact own_less O6.out hsz, bStep hb hb6⟩
set_option maxRecDepth 100000 in
set_option maxHeartbeats 8000000 in
theorem implFlowSum_2 (v : Value) (l : List Rw) (w : World) (h : Rs w v l) :
    Calls Tryz.prog 20 #[v, .int .i64 2] w fun e w' => ∃ o : Value, e = .returned o ∧ OwnR w' w.heap.size o (fsumL l 2) ∧ Below w.heap.size w w' := by
  have HI : Hid (Rs w v l) := h
  cases hk : rokB l
  · have HF : Hid (fsumL l 2 = []) := fsum_no1 hk
    go_enter Tryz.func20, Tryz.ntmps20
    go_wp2_with fail
    refine (sumOf_2 _).mono ?_
    rintro e w1 ⟨rfl, hb1⟩
    go_wp2_with fail
    refine (implRowsOk_eq hk (h.keep hb1)).mono ?_
    rintro e w2 ⟨rfl, hb2⟩
    go_wp2_with fail
    go_ret
    refine ⟨_, rfl, ?_, bStep hb1 hb2⟩
    rw [HF.out]
    exact ownK_nil _ _ _ _ _
  have HF : Hid (fsumL l 2 = sumF (fsumR 2 l)) := fsum_yes hk (by decide)
  have hll := rok_len hk
  have HC : Hid (∀ (key : Int) (W : World) (u : Value), Rs W u (rowsK l key) → Calls Tryz.prog 76 #[u, .func (.func 87) #[] #[]] W fun e w' => ∃ o : Value, e = .returned o ∧ OwnR w' W.heap.size o (chgL 2 (rowsK l key)) ∧ Below W.heap.size W w') := fun key W u hR => by
    obtain ⟨a, cap, rfl, -⟩ := Rs.open hR
    exact callsIn_wide.1 (changes_any 2 87 (enters_of Tryz.func87 (by kernel_rfl) rfl) (fun v s W h => by rw [← sum_once]; exact implSetOnce_any v s W h) a cap (rowsK l key) W (rowsK_ok hk key) hR)
  have HL : Hid (∀ k, (accG (fun k => chgL 2 (rowsK l k)) k).length ≤ k * 102400) := accG_len fun k => chgL_len 2 (rowsK l k)
  have HL1 : Hid (∀ k, (chgL 2 (rowsK l k)).length ≤ 102400) := fun k => chgL_len 2 (rowsK l k)
  have H4 : Hid (accG (fun k => chgL 2 (rowsK l k)) 4 = fsumR 2 l) := accG_four 2 l
  have hfl := fsumR_len 2 l
  have hfa := fsumR_abs 2 l
  have HSP : Hid (∀ r ∈ fsumR 2 l, spOk r.1) := fsumR_sp
  go_enter Tryz.func20, Tryz.ntmps20
  go_wp2_with fail
  refine (sumOf_2 _).mono ?_
  rintro e w1 ⟨rfl, hb1⟩
  go_wp2_with fail
  refine (implRowsOk_eq hk (h.keep hb1)).mono ?_
  rintro e w2 ⟨rfl, hb2⟩
  have hbw2 := bStep hb1 hb2
  clear h hb1 hb2
  go_wp2_with fail
  go_loopw [7, 21] (fun o i wr => ∃ k : Nat, k ≤ 4 ∧ i = .int .i64 k ∧ OwnR wr w.heap.size o (accG (fun k => chgL 2 (rowsK l k)) k) ∧ Below w.heap.size w wr) (fun _ i _ => 4 - (intOf i).toNat)
  case atStart => exact ⟨0, by omega, rfl, ownK_nil _ _ _ _ _, hbw2⟩
  case round =>
    clear hbw2
    obtain ⟨k, hk4, rfl, hown, hb⟩ := hrel
    have HO : Hid (OwnR wr w.heap.size u7 (accG (fun k => chgL 2 (rowsK l k)) k)) := hown
    clear hown
    have hsz := hb.size
    by_cases hlt : k < 4
    · have ik : (k : Int) < 4 := by omega
      go_wp2_with fail
      refine (rowsOf_any _ l k _ (HI.out.keep hb) hll).mono ?_
      rintro e w3 ⟨o3, rfl, own3, hb3⟩
      have R3 : Rs w3 o3 (rowsK l k) := OwnR.rs own3 (by have := rowsK_len l k; omega)
      have hbn3 := bStep hb hb3
      have HO3 : Hid (OwnR w3 w.heap.size u7 (accG (fun k => chgL 2 (rowsK l k)) k)) := own_keep HO.out hb3
      clear own3 HO hb hb3
      go_wp2_with fail
      refine (HC.out k w3 o3 R3).mono ?_
      rintro e w4 ⟨o4, rfl, own4, hb4⟩
      have h1 := HL.out k
      have h2 := HL1.out k
      have is4 := OwnR.rs own4 (by omega)
      have hbn4 := bStep hbn3 hb4
      have hsn4 := hbn4.size
      have O4 : OwnR w4 w.heap.size u7 (accG (fun k => chgL 2 (rowsK l k)) k) := own_keep HO3.out hb4
      have HZ : Hid (accG (fun k => chgL 2 (rowsK l k)) (k + 1) = accG (fun k => chgL 2 (rowsK l k)) k ++ chgL 2 (rowsK l k)) := rfl
      clear HO3 hb4 own4 R3 hbn3
      generalize accG (fun k => chgL 2 (rowsK l k)) k = LL at *
      generalize chgL 2 (rowsK l k) = MM at *
      go_wp2_with (at_builtin; refine appRs _ rfl _ _ rfl w.heap.size _ LL rfl O4 _ MM rfl is4 (by omega) (by omega) ?_; intro v5 w5 own5 hg5)
      have hb5 : Below w.heap.size w w5 := Below.grew hbn4 hg5 (by omega) (ownK_base O4)
      exact ⟨⟨k + 1, by omega, by go_num, by rw [HZ.out]; exact own5, hb5⟩, by simp [intOf]; omega⟩
    · obtain rfl : k = 4 := by omega
      rw [H4.out] at HO
      have R4 := OwnR.rs HO.out (by omega)
      go_wp2_with fail
      refine (batchOf_any _ _ _ R4 (by omega) (by omega) HSP.out).mono ?_
      rintro e w6 ⟨o6, rfl, own6, hb6⟩
      have O6 : Hid (OwnR w6 wr.heap.size o6 (sumF (fsumR 2 l))) := own6
      clear own6
      go_wp2_with fail
      go_ret
      exact ⟨_, rfl, by rw [HF.out]; exact own_less O6.out hsz, bStep hb hb6⟩
set_option maxRecDepth 100000 in
set_option maxHeartbeats 8000000 in
theorem implFlowSum_3 (v : Value) (l : List Rw) (w : World) (h : Rs w v l) :
    Calls Tryz.prog 20 #[v, .int .i64 3] w fun e w' => ∃ o : Value, e = .returned o ∧ OwnR w' w.heap.size o (fsumL l 3) ∧ Below w.heap.size w w' := by
  have HI : Hid (Rs w v l) := h
  cases hk : rokB l
  · have HF : Hid (fsumL l 3 = []) := fsum_no1 hk
    go_enter Tryz.func20, Tryz.ntmps20
    go_wp2_with fail
    refine (sumOf_3 _).mono ?_
    rintro e w1 ⟨rfl, hb1⟩
    go_wp2_with fail
    refine (implRowsOk_eq hk (h.keep hb1)).mono ?_
    rintro e w2 ⟨rfl, hb2⟩
    go_wp2_with fail
    go_ret
    refine ⟨_, rfl, ?_, bStep hb1 hb2⟩
    rw [HF.out]
    exact ownK_nil _ _ _ _ _
  have HF : Hid (fsumL l 3 = sumF (fsumR 3 l)) := fsum_yes hk (by decide)
  have hll := rok_len hk
  have HC : Hid (∀ (key : Int) (W : World) (u : Value), Rs W u (rowsK l key) → Calls Tryz.prog 76 #[u, .func (.func 88) #[] #[]] W fun e w' => ∃ o : Value, e = .returned o ∧ OwnR w' W.heap.size o (chgL 3 (rowsK l key)) ∧ Below W.heap.size W w') := fun key W u hR => by
    obtain ⟨a, cap, rfl, -⟩ := Rs.open hR
    exact callsIn_wide.1 (changes_any 3 88 (enters_of Tryz.func88 (by kernel_rfl) rfl) (fun v s W h => by rw [← sum_least]; exact implSetLeast_any v s W h) a cap (rowsK l key) W (rowsK_ok hk key) hR)
  have HL : Hid (∀ k, (accG (fun k => chgL 3 (rowsK l k)) k).length ≤ k * 102400) := accG_len fun k => chgL_len 3 (rowsK l k)
  have HL1 : Hid (∀ k, (chgL 3 (rowsK l k)).length ≤ 102400) := fun k => chgL_len 3 (rowsK l k)
  have H4 : Hid (accG (fun k => chgL 3 (rowsK l k)) 4 = fsumR 3 l) := accG_four 3 l
  have hfl := fsumR_len 3 l
  have hfa := fsumR_abs 3 l
  have HSP : Hid (∀ r ∈ fsumR 3 l, spOk r.1) := fsumR_sp
  go_enter Tryz.func20, Tryz.ntmps20
  go_wp2_with fail
  refine (sumOf_3 _).mono ?_
  rintro e w1 ⟨rfl, hb1⟩
  go_wp2_with fail
  refine (implRowsOk_eq hk (h.keep hb1)).mono ?_
  rintro e w2 ⟨rfl, hb2⟩
  have hbw2 := bStep hb1 hb2
  clear h hb1 hb2
  go_wp2_with fail
  go_loopw [7, 21] (fun o i wr => ∃ k : Nat, k ≤ 4 ∧ i = .int .i64 k ∧ OwnR wr w.heap.size o (accG (fun k => chgL 3 (rowsK l k)) k) ∧ Below w.heap.size w wr) (fun _ i _ => 4 - (intOf i).toNat)
  case atStart => exact ⟨0, by omega, rfl, ownK_nil _ _ _ _ _, hbw2⟩
  case round =>
    clear hbw2
    obtain ⟨k, hk4, rfl, hown, hb⟩ := hrel
    have HO : Hid (OwnR wr w.heap.size u7 (accG (fun k => chgL 3 (rowsK l k)) k)) := hown
    clear hown
    have hsz := hb.size
    by_cases hlt : k < 4
    · have ik : (k : Int) < 4 := by omega
      go_wp2_with fail
      refine (rowsOf_any _ l k _ (HI.out.keep hb) hll).mono ?_
      rintro e w3 ⟨o3, rfl, own3, hb3⟩
      have R3 : Rs w3 o3 (rowsK l k) := OwnR.rs own3 (by have := rowsK_len l k; omega)
      have hbn3 := bStep hb hb3
      have HO3 : Hid (OwnR w3 w.heap.size u7 (accG (fun k => chgL 3 (rowsK l k)) k)) := own_keep HO.out hb3
      clear own3 HO hb hb3
      go_wp2_with fail
      refine (HC.out k w3 o3 R3).mono ?_
      rintro e w4 ⟨o4, rfl, own4, hb4⟩
      have h1 := HL.out k
      have h2 := HL1.out k
      have is4 := OwnR.rs own4 (by omega)
      have hbn4 := bStep hbn3 hb4
      have hsn4 := hbn4.size
      have O4 : OwnR w4 w.heap.size u7 (accG (fun k => chgL 3 (rowsK l k)) k) := own_keep HO3.out hb4
      have HZ : Hid (accG (fun k => chgL 3 (rowsK l k)) (k + 1) = accG (fun k => chgL 3 (rowsK l k)) k ++ chgL 3 (rowsK l k)) := rfl
      clear HO3 hb4 own4 R3 hbn3
      generalize accG (fun k => chgL 3 (rowsK l k)) k = LL at *
      generalize chgL 3 (rowsK l k) = MM at *
      go_wp2_with (at_builtin; refine appRs _ rfl _ _ rfl w.heap.size _ LL rfl O4 _ MM rfl is4 (by omega) (by omega) ?_; intro v5 w5 own5 hg5)
      have hb5 : Below w.heap.size w w5 := Below.grew hbn4 hg5 (by omega) (ownK_base O4)
      exact ⟨⟨k + 1, by omega, by go_num, by rw [HZ.out]; exact own5, hb5⟩, by simp [intOf]; omega⟩
    · obtain rfl : k = 4 := by omega
      rw [H4.out] at HO
      have R4 := OwnR.rs HO.out (by omega)
      go_wp2_with fail
      refine (batchOf_any _ _ _ R4 (by omega) (by omega) HSP.out).mono ?_
      rintro e w6 ⟨o6, rfl, own6, hb6⟩
      have O6 : Hid (OwnR w6 wr.heap.size o6 (sumF (fsumR 3 l))) := own6
      clear own6
      go_wp2_with fail
      go_ret
      exact ⟨_, rfl, by rw [HF.out]; exact own_less O6.out hsz, bStep hb hb6⟩
set_option maxHeartbeats 2000000 in
theorem implFlowSum_any (v : Value) (l : List Rw) (kind : Int) (w : World) (h : Rs w v l) :
    Calls Tryz.prog 20 #[v, .int .i64 kind] w fun e w' => ∃ o : Value, e = .returned o ∧ OwnR w' w.heap.size o (fsumL l kind) ∧ Below w.heap.size w w' := by
  cases hw : inB kind 1 3
  · have HF : Hid (fsumL l kind = []) := fsum_no2 hw
    go_enter Tryz.func20, Tryz.ntmps20
    go_wp2_with fail
    refine (sumOf_no kind hw _).mono ?_
    rintro e w1 ⟨rfl, hb1⟩
    go_wp2_with fail
    go_ret
    refine ⟨_, rfl, ?_, hb1⟩
    rw [HF.out]
    exact ownK_nil _ _ _ _ _
  · have h' : kind = 1 ∨ kind = 2 ∨ kind = 3 := by simp [inB] at hw; omega
    rcases h' with rfl | rfl | rfl
    · exact implFlowSum_1 v l w h
    · exact implFlowSum_2 v l w h
    · exact implFlowSum_3 v l w h
end Go.Proofs.YtdbhgocaelmanaaGreat
