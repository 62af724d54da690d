import Derived.Test.YtldejkhemkjcgaaGreatDoorMul
import Derived.Shelf.Spec.BitsCarry
import Derived.Test.YtldejkhemkjcgaaGreatDoorGa6
import Derived.Laws.Bits64
import Derived.Test.YtldejkhemkjcgaaGreatDoorGm1
namespace Go.Proofs.YtldejkhemkjcgaaGreatDoor
open Go.RowKit
abbrev wv (h l : Nat) : Value := .agg #[.int .u64 (h : Int), .int .u64 (l : Int)]
theorem add64_run (x y c : Nat) (hc : c ≤ 1) (w : World) :
    (callFunc 189 #[.int .u64 x, .int .u64 y, .int .u64 c]).run Tryz.prog w =
      .ok (.value (.tuple #[.int .u64 (((x + y + c) % 18446744073709551616 : Nat) : Int), .int .u64 (((x + y + c) / 18446744073709551616 : Nat) : Int)])) w := by
  rw [run_callFunc_extern Tryz.func189 (by kernel_rfl) (by kernel_rfl) (by kernel_rfl) (e := add64Entry) (by kernel_rfl), run_add64 x y c (by omega) (by omega) (by omega) (by omega)]
  simp only [Result.andThen]
  congr 5 <;> omega
set_option maxRecDepth 100000 in
set_option maxHeartbeats 4000000 in
theorem plus_any (h1 l1 h2 l2 : Nat) (b2 : l1 < 18446744073709551616) (b4 : l2 < 18446744073709551616) (w : World) :
    Calls Tryz.prog 169 #[wv h1 l1, wv h2 l2] w fun e w' =>
      e = .returned (wv ((h1 + h2 + (l1 + l2) / 18446744073709551616) % 18446744073709551616) ((l1 + l2) % 18446744073709551616)) ∧ Below w.heap.size w w' := by
  have B1 := ((Bk.new (w := w) #[.int .u64 h1, .int .u64 l1] 211 rfl).alloc (.cells #[.int .u64 h2, .int .u64 l2] 211)).alloc (.cells #[.int .u64 0, .int .u64 0] 211)
  have B2 := (Bk.new (w := w.alloc (.cells #[.int .u64 h1, .int .u64 l1] 211)) #[.int .u64 h2, .int .u64 l2] 211 rfl).alloc (.cells #[.int .u64 0, .int .u64 0] 211)
  have B3 := Bk.new (w := (w.alloc (.cells #[.int .u64 h1, .int .u64 l1] 211)).alloc (.cells #[.int .u64 h2, .int .u64 l2] 211)) #[.int .u64 0, .int .u64 0] 211 rfl
  simp only [World.size_alloc] at B2 B3
  have a1 : ∀ w, (callFunc 189 #[.int .u64 l1, .int .u64 l2, .int .u64 0]).run Tryz.prog w = .ok (.value (.tuple #[.int .u64 (((l1 + l2) % 18446744073709551616 : Nat) : Int), .int .u64 (((l1 + l2) / 18446744073709551616 : Nat) : Int)])) w := fun w => add64_run l1 l2 0 (by omega) w
  have a2 := fun w => add64_run h1 h2 ((l1 + l2) / 18446744073709551616) (by omega) w
  generalize (l1 + l2) / 18446744073709551616 = C at *
  generalize (l1 + l2) % 18446744073709551616 = LO at *
  generalize (h1 + h2 + C) % 18446744073709551616 = HI at *
  generalize (h1 + h2 + C) / 18446744073709551616 = CC at *
  obtain ⟨p0, p1, _, _⟩ := B1.two
  obtain ⟨q0, q1, _, _⟩ := B2.two
  obtain ⟨r0, r1, f0, f1⟩ := B3.two
  clear b2 b4
  go_enter Tryz.func169, Tryz.ntmps169
  go_wp2_with fail
  have B4 := Bk.new (w := (w.alloc (.cells #[.int .u64 h1, .int .u64 l1] 211)).alloc (.cells #[.int .u64 h2, .int .u64 l2] 211)) #[.int .u64 HI, .int .u64 LO] 211 rfl
  simp only [World.size_alloc] at B4
  obtain ⟨s0, s1, _, _⟩ := B4.two
  refine bodyPost_ret (by simp [results, Tryz.results169, go_sem, s0, s1]; try rfl) rfl ?_
  exact ⟨rfl, bAlloc (bAlloc (bAlloc (Below.refl w.heap.size w) _) _) _⟩
end Go.Proofs.YtldejkhemkjcgaaGreatDoor
namespace Go.Proofs.YtldejkhemkjcgaaGreatDoor
open Go.RowKit
def wL (z : Int) : Nat := (z % 18446744073709551616).toNat
def wH (z : Int) : Nat := (z / 18446744073709551616 % 18446744073709551616).toNat
theorem w_plus {a b : Int} : (wH a + wH b + (wL a + wL b) / 18446744073709551616) % 18446744073709551616 = wH (a + b) ∧ (wL a + wL b) % 18446744073709551616 = wL (a + b) := by
  unfold wH wL; omega
theorem prod_parts {m n : Int} (hm : -562949953421312 ≤ m ∧ m ≤ 562949953421312) (hn : -562949953421312 ≤ n ∧ n ≤ 562949953421312) (h1 : (m * n).natAbs ≤ 562949953421312 * 1000) :
    wL m * wL n % 18446744073709551616 = wL (m * n) ∧
    ((0 ≤ m ∧ 0 ≤ n → wL m * wL n / 18446744073709551616 = wH (m * n)) ∧
     (m < 0 ∧ 0 ≤ n → (((wL m * wL n / 18446744073709551616 : Nat) : Int) - (wL n : Int)) % 18446744073709551616 = wH (m * n)) ∧
     (0 ≤ m ∧ n < 0 → (((wL m * wL n / 18446744073709551616 : Nat) : Int) - (wL m : Int)) % 18446744073709551616 = wH (m * n)) ∧
     (m < 0 ∧ n < 0 → ((((wL m * wL n / 18446744073709551616 : Nat) : Int) - (wL n : Int)) % 18446744073709551616 - (wL m : Int)) % 18446744073709551616 = wH (m * n))) := by
  have key : ((wL m * wL n : Nat) : Int) = m * n + 18446744073709551616 * ((if m < 0 then n else 0) + (if n < 0 then m else 0)) + (if m < 0 ∧ n < 0 then 18446744073709551616 * 18446744073709551616 else 0) := by
    have e1 : (wL m : Int) = m + (if m < 0 then 18446744073709551616 else 0) := by unfold wL; split <;> omega
    have e2 : (wL n : Int) = n + (if n < 0 then 18446744073709551616 else 0) := by unfold wL; split <;> omega
    rw [Int.natCast_mul, e1, e2]
    by_cases c1 : m < 0 <;> by_cases c2 : n < 0 <;> simp only [c1, c2, if_true, if_false, and_self, and_true, and_false] <;> simp only [Int.add_mul, Int.mul_add, Int.add_zero, Int.zero_add] <;> omega
  generalize hP : wL m * wL n = P at *
  generalize m * n = z at *
  have em : (wL m : Int) = m % 18446744073709551616 := by unfold wL; omega
  have en : (wL n : Int) = n % 18446744073709551616 := by unfold wL; omega
  clear hP
  by_cases c1 : m < 0 <;> by_cases c2 : n < 0 <;> simp only [c1, c2, if_true, if_false, and_self, and_true, and_false] at key <;> unfold wL wH at * <;> refine ⟨by omega, fun h => by omega, fun h => by omega, fun h => by omega, fun h => by omega⟩
theorem mul64_at (m n : Nat) (hm : m < 18446744073709551616) (hn : n < 18446744073709551616) (w : World) :
    Calls Tryz.prog 190 #[.int .u64 m, .int .u64 n] w fun e w' => e = .returned (.tuple #[.int .u64 ((m * n / 18446744073709551616 : Nat) : Int), .int .u64 ((m * n % 18446744073709551616 : Nat) : Int)]) ∧ w' = w :=
  Any.bits_Mul64 mulU m n hm hn w
set_option maxRecDepth 100000 in
set_option maxHeartbeats 4000000 in
theorem productOf_big {m n : Int} (hm : -562949953421312 ≤ m ∧ m ≤ 562949953421312) (hn : -562949953421312 ≤ n ∧ n ≤ 562949953421312) (hp : (m * n).natAbs ≤ 562949953421312 * 1000) (w : World) :
    Calls Tryz.prog 170 #[.int .i64 m, .int .i64 n] w fun e w' => e = .returned (wv (wH (m * n)) (wL (m * n))) ∧ Below w.heap.size w w' := by
  obtain ⟨hLo, h00, h10, h01, h11⟩ := prod_parts hm hn hp
  have cm : IntKind.u64.wrap m = (wL m : Int) := by rw [IntKind.wrap_u64]; unfold wL; omega
  have cn : IntKind.u64.wrap n = (wL n : Int) := by rw [IntKind.wrap_u64]; unfold wL; omega
  have bm : wL m < 18446744073709551616 := by unfold wL; omega
  have bn : wL n < 18446744073709551616 := by unfold wL; omega
  have MU := (show Hid _ from fun w => mul64_at (wL m) (wL n) bm bn w)
  have H00 : Hid _ := h00
  have H10 : Hid _ := h10
  have H01 : Hid _ := h01
  have H11 : Hid _ := h11
  clear h00 h10 h01 h11 hm hn hp bm bn
  generalize hU : wL m = um at *
  generalize hV : wL n = un at *
  rw [hLo] at MU
  generalize um * un / 18446744073709551616 = H at *
  generalize wH (m * n) = HI at *
  generalize wL (m * n) = LO at *
  clear hU hV hLo
  have B4 := fun HH : Nat => (Bk.new (w := w) #[.int .u64 HH, .int .u64 LO] 211 rfl).two
  by_cases c1 : m < 0 <;> by_cases c2 : n < 0
  · obtain ⟨H1, e1⟩ : ∃ H1 : Nat, ((H : Int) - (un : Int)) % 18446744073709551616 = (H1 : Int) := ⟨_, (Int.toNat_of_nonneg (by omega)).symm⟩
    have i1 : IntKind.u64.wrap ((H : Int) - (un : Int)) = (H1 : Int) := by rw [IntKind.wrap_u64]; exact e1
    have i2 : IntKind.u64.wrap ((H1 : Int) - (um : Int)) = (HI : Int) := by rw [IntKind.wrap_u64, ← e1]; exact H11.out ⟨c1, c2⟩
    clear e1 H00 H10 H01 H11
    obtain ⟨s0, s1, _, _⟩ := B4 HI
    go_enter Tryz.func170, Tryz.ntmps170
    go_wp2_with fail
    refine (MU.out _).mono ?_
    rintro e w1 ⟨rfl, rfl⟩
    go_wp2_with fail
    refine bodyPost_ret (by simp [results, Tryz.results170, go_sem, s0, s1]; try rfl) rfl ?_
    exact ⟨rfl, bAlloc (Below.refl w.heap.size w) _⟩
  · have i1 : IntKind.u64.wrap ((H : Int) - (un : Int)) = (HI : Int) := by rw [IntKind.wrap_u64]; exact H10.out ⟨c1, by omega⟩
    clear H00 H10 H01 H11
    obtain ⟨s0, s1, _, _⟩ := B4 HI
    go_enter Tryz.func170, Tryz.ntmps170
    go_wp2_with fail
    refine (MU.out _).mono ?_
    rintro e w1 ⟨rfl, rfl⟩
    go_wp2_with fail
    refine bodyPost_ret (by simp [results, Tryz.results170, go_sem, s0, s1]; try rfl) rfl ?_
    exact ⟨rfl, bAlloc (Below.refl w.heap.size w) _⟩
  · have i1 : IntKind.u64.wrap ((H : Int) - (um : Int)) = (HI : Int) := by rw [IntKind.wrap_u64]; exact H01.out ⟨by omega, c2⟩
    clear H00 H10 H01 H11
    obtain ⟨s0, s1, _, _⟩ := B4 HI
    go_enter Tryz.func170, Tryz.ntmps170
    go_wp2_with fail
    refine (MU.out _).mono ?_
    rintro e w1 ⟨rfl, rfl⟩
    go_wp2_with fail
    refine bodyPost_ret (by simp [results, Tryz.results170, go_sem, s0, s1]; try rfl) rfl ?_
    exact ⟨rfl, bAlloc (Below.refl w.heap.size w) _⟩
  · have i1 : H = HI := H00.out ⟨by omega, by omega⟩
    subst i1
    clear H00 H10 H01 H11
    obtain ⟨s0, s1, _, _⟩ := B4 H
    go_enter Tryz.func170, Tryz.ntmps170
    go_wp2_with fail
    refine (MU.out _).mono ?_
    rintro e w1 ⟨rfl, rfl⟩
    go_wp2_with fail
    refine bodyPost_ret (by simp [results, Tryz.results170, go_sem, s0, s1]; try rfl) rfl ?_
    exact ⟨rfl, bAlloc (Below.refl w.heap.size w) _⟩
theorem productOf_few {m n : Int} (hm : -1200000 ≤ m ∧ m ≤ 1200000) (hn : -1200000 ≤ n ∧ n ≤ 1200000) (w : World) :
    Calls Tryz.prog 170 #[.int .i64 m, .int .i64 n] w fun e w' => e = .returned (wv (wH (m * n)) (wL (m * n))) ∧ Below w.heap.size w w' := productOf_big ⟨by omega, by omega⟩ ⟨by omega, by omega⟩ (Nat.le_trans (by rw [Int.natAbs_mul]; exact Nat.mul_le_mul (show m.natAbs ≤ 1200000 by omega) (show n.natAbs ≤ 1200000 by omega)) (by decide)) w
end Go.Proofs.YtldejkhemkjcgaaGreatDoor
namespace Go.Proofs.YtldejkhemkjcgaaGreatDoor
open Go.RowKit
set_option maxRecDepth 100000 in
set_option maxHeartbeats 4000000 in
theorem number_mid {z : Int} (hz : -4000000000000000000 ≤ z ∧ z ≤ 4000000000000000000) (w : World) :
    Calls Tryz.prog 168 #[wv (wH z) (wL z)] w fun e w' => e = .returned (.tuple #[.int .i64 z, .bool true]) ∧ Below w.heap.size w w' := by
  have cz : IntKind.i64.wrap (wL z : Int) = z := by rw [IntKind.wrap_i64]; unfold wL; omega
  have ch : (wH z : Int) = if z < 0 then 18446744073709551615 else 0 := by unfold wH; split <;> omega
  have B1 := Bk.new (w := w) #[.int .u64 (wH z), .int .u64 (wL z)] 211 rfl
  obtain ⟨s0, s1, _, _⟩ := B1.two
  generalize wH z = HI at *
  generalize wL z = LO at *
  by_cases hn : z < 0
  · rw [if_pos hn] at ch
    have sh : z / 9223372036854775808 = -1 := by omega
    have sw : IntKind.u64.wrap (-1) = 18446744073709551615 := by rw [IntKind.wrap_u64]; omega
    go_enter Tryz.func168, Tryz.ntmps168
    go_wp2_with fail
    go_quiet (fail)
    go_wp2_with fail
    refine bodyPost_ret (by simp [results, Tryz.results168, go_sem]; try rfl) rfl ?_
    exact ⟨rfl, bDrewN (bAlloc (Below.refl w.heap.size w) _) _⟩
  · rw [if_neg hn] at ch
    have sh : z / 9223372036854775808 = 0 := by omega
    go_enter Tryz.func168, Tryz.ntmps168
    go_wp2_with fail
    go_quiet (fail)
    go_wp2_with fail
    refine bodyPost_ret (by simp [results, Tryz.results168, go_sem]; try rfl) rfl ?_
    exact ⟨rfl, bDrewN (bAlloc (Below.refl w.heap.size w) _) _⟩
end Go.Proofs.YtldejkhemkjcgaaGreatDoor
namespace Go.Proofs.YtldejkhemkjcgaaGreatDoor
open Go.RowKit
abbrev wz (z : Int) : Value := wv (wH z) (wL z)
def MapWs {κ : Type} (ek : κ → Value) (ok : κ → Prop) (w : World) (b : Nat) (M : List (κ × Int)) : Prop :=
  ∃ es clock, w.heap[b]? = some (.map es clock) ∧ MapKept.Stamped es clock ∧ es.toList.map (fun x => (x.key, x.val)) = M.map (fun p => (ek p.1, wz p.2)) ∧ ∀ p ∈ M, ok p.1
section
variable {κ : Type} {ek : κ → Value} {ok : κ → Prop} {k e t : TypeId} {w : World} {b : Nat} {M : List (κ × Int)}
theorem MapWs.lt (h : MapWs ek ok w b M) : b < w.heap.size := by
  obtain ⟨es, clock, hb, _⟩ := h
  exact lt_of_block hb
theorem MapWs.move {w1 : World} (h : MapWs ek ok w b M) (hb : w1.heap[b]? = w.heap[b]?) : MapWs ek ok w1 b M := by
  obtain ⟨es, clock, h1, r⟩ := h
  exact ⟨es, clock, by rw [hb]; exact h1, r⟩
theorem MapWs.keep {w1 : World} (h : MapWs ek ok w b M) (hb : Below w.heap.size w w1) : MapWs ek ok w1 b M := h.move (hb.block b h.lt)
theorem MapWs.new (w : World) (hB : b = w.heap.size) : MapWs ek ok (w.alloc (.map #[] 0)) b [] := by
  subst hB
  exact ⟨#[], 0, heap_alloc_new w _, MapKept.stamped_empty 0, by simp, by simp⟩
theorem mapWs_at {es : Array MapEntry} (hm : es.toList.map (fun x => (x.key, x.val)) = M.map (fun p => (ek p.1, wz p.2))) {j : Nat} {x : MapEntry} (hx : es.toList[j]? = some x) : ∃ p, M[j]? = some p ∧ x.key = ek p.1 ∧ x.val = wz p.2 := by
  have h := congrArg (fun l => l[j]?) hm
  simp only [List.getElem?_map, hx, Option.map_some] at h
  cases hp : M[j]? with
  | none => rw [hp] at h; cases h
  | some p =>
    rw [hp] at h
    simp only [Option.map_some, Option.some.injEq, Prod.mk.injEq] at h
    exact ⟨p, rfl, h.1, h.2⟩
theorem mapWs_keys (K : KeyEnc k ek ok) {es : Array MapEntry} (hm : es.toList.map (fun x => (x.key, x.val)) = M.map (fun p => (ek p.1, wz p.2))) (ho : ∀ p ∈ M, ok p.1) : ∀ x ∈ es.toList, ∃ l, keyOf Tryz.prog k x.key = some l := by
  intro x hx
  obtain ⟨j, hj⟩ := List.mem_iff_getElem?.1 hx
  obtain ⟨p, hp, h1, _⟩ := mapWs_at hm hj
  rw [h1]
  exact K.key _ (ho p (List.mem_of_getElem? hp))
theorem mapWs_none {es : Array MapEntry} (hm : es.toList.map (fun x => (x.key, x.val)) = M.map (fun p => (ek p.1, wz p.2))) {s : κ} (h : ∀ x ∈ es.toList, x.key ≠ ek s) : ∀ r ∈ M, r.1 ≠ s := by
  intro r hr e
  obtain ⟨j, hj⟩ := List.mem_iff_getElem?.1 hr
  have h' := congrArg (fun l => l[j]?) hm
  simp only [List.getElem?_map, hj, Option.map_some] at h'
  cases hx : es.toList[j]? with
  | none => rw [hx] at h'; cases h'
  | some x =>
    rw [hx] at h'
    simp only [Option.map_some, Option.some.injEq, Prod.mk.injEq] at h'
    exact h x (List.mem_of_getElem? hx) (by rw [h'.1, e])
theorem mapWs_nodup {es : Array MapEntry} {clock : Nat} (hs : MapKept.Stamped es clock) (hm : es.toList.map (fun x => (x.key, x.val)) = M.map (fun p => (ek p.1, wz p.2))) : (M.map Prod.fst).Nodup := by
  have h1 : es.toList.map (·.key) = M.map (fun p => ek p.1) := by
    have := congrArg (List.map Prod.fst) hm
    simpa [List.map_map, Function.comp_def] using this
  have h2 := hs.2.2
  rw [h1] at h2
  have : (M.map fun p => ek p.1) = (M.map Prod.fst).map ek := by simp [List.map_map, Function.comp_def]
  rw [this] at h2
  exact (List.pairwise_map.1 h2).imp fun h e => h (by rw [e])
theorem MapWs.nodup (h : MapWs ek ok w b M) : (M.map Prod.fst).Nodup := by
  obtain ⟨es, clock, _, hs, hm, _⟩ := h
  exact mapWs_nodup hs hm
theorem MapWs.look [DecidableEq κ] (h : MapWs ek ok w b M) (K : KeyEnc k ek ok) (ht : Tryz.prog.underlying t = some (.map k e)) (hz : ∀ w, (zeroValue e).run Tryz.prog w = .ok (wz 0) w) {s : κ} (hok : ok s) :
    (Instr.lookup t (.map (some b)) (ek s) false).run Tryz.prog w = .ok (wz (tot M s)) w := by
  obtain ⟨es, clock, hb, hs, hm, ho⟩ := h
  obtain ⟨l, hl⟩ := K.key s hok
  rcases K.law.find w hl es.toList (mapWs_keys K hm ho) with ⟨h1, h2⟩ | ⟨j, x, h1, h2, h3⟩
  · rw [tot_of_not (mapWs_none hm h2)]
    simp [Instr.lookup, run_underlying ht, MapKept.run_getObj_map hb, K.law.check w _ hl, h1, hz, Result.andThen]
  · obtain ⟨p, hp, e1, e2⟩ := mapWs_at hm h2
    have : p.1 = s := K.inj _ _ (by rw [← e1, h3])
    subst this
    rw [tot_nodup (mapWs_nodup hs hm) (List.mem_of_getElem? hp), ← e2]
    simp [Instr.lookup, run_underlying ht, MapKept.run_getObj_map hb, K.law.check w _ hl, h1, Result.andThen]
open Go.ChangeMaps (setBlock) in
theorem MapWs.put [DecidableEq κ] (h : MapWs ek ok w b M) (K : KeyEnc k ek ok) (ht : Tryz.prog.underlying t = some (.map k e)) {s : κ} (hok : ok s) (n : Int) :
    ∃ (o2 : Obj) (M' : List (κ × Int)), (Instr.mapUpdate t (.map (some b)) (ek s) (wz n)).run Tryz.prog w = .ok () (setBlock w b o2) ∧
      MapWs ek ok (setBlock w b o2) b M' ∧ (∀ s', tot M' s' = if s = s' then n else tot M s') ∧ M'.length ≤ M.length + 1 := by
  obtain ⟨es, clock, hb, hs, hm, ho⟩ := h
  obtain ⟨l, hl⟩ := K.key s hok
  have hlt : b < w.heap.size := lt_of_block hb
  have same : ∀ o, (setBlock w b o).heap[b]? = some o := fun o => by simp [setBlock, hlt]
  rcases K.law.find w hl es.toList (mapWs_keys K hm ho) with ⟨h1, h2⟩ | ⟨j, x, h1, h2, h3⟩
  · have h0 := mapWs_none hm h2
    have t0 : tot M s = 0 := tot_of_not h0
    refine ⟨.map (es.push ⟨ek s, wz n, clock⟩) (clock + 1), M ++ [(s, n)], ?_, ?_, ?_, by simp⟩
    · simp [Instr.mapUpdate, run_underlying ht, MapKept.run_getObj_map hb, K.law.check w false hl, h1, MapKept.run_setObj_map _ hb, Result.andThen, setBlock]
    · exact ⟨_, _, same _, MapKept.stamped_push hs h2, by simp [hm], fun p hp => by
        rcases List.mem_append.1 hp with hp | hp
        · exact ho p hp
        · simp at hp; subst hp; exact hok⟩
    · intro s'
      rw [tot_snoc]
      by_cases e1 : s = s'
      · subst e1; simp [t0]
      · simp [e1]
  · obtain ⟨p, hp, e1, e2⟩ := mapWs_at hm h2
    have : p.1 = s := K.inj _ _ (by rw [← e1, h3])
    subst this
    have hj : es[j]? = some x := by simpa using h2
    have tp := tot_nodup (mapWs_nodup hs hm) (List.mem_of_getElem? hp)
    have hlist : (es.modify j (fun e' => { e' with key := ek p.1, val := wz n })).toList = es.toList.set j { x with val := wz n } := by
      rw [Array.toList_modify, Go.ChangeMaps.modify_eq_set _ _ _ _ h2]
      have : ({ x with key := ek p.1, val := wz n } : MapEntry) = { x with val := wz n } := by rw [← h3]
      rw [this]
    have hmod : es.modify j (fun e' => { e' with key := ek p.1, val := wz n }) = es.modify j (fun e' => { e' with val := wz n }) := by
      apply Array.ext'
      rw [hlist, Array.toList_modify, Go.ChangeMaps.modify_eq_set _ _ _ _ h2]
    refine ⟨.map (es.modify j (fun e' => { e' with key := ek p.1, val := wz n })) clock, M.set j (p.1, n), ?_, ?_, ?_, by simp⟩
    · simp [Instr.mapUpdate, run_underlying ht, MapKept.run_getObj_map hb, K.law.check w false hl, h1, hj, h3, K.law.stays w hl, MapKept.run_setObj_map _ hb, Result.andThen, setBlock]
    · rw [hmod]
      refine ⟨_, _, same _, MapKept.stamped_modify hs _ _ (fun _ _ => rfl) (fun _ _ _ => rfl), ?_, fun q hq => ?_⟩
      · rw [← hmod, hlist, List.map_set, List.map_set, hm, h3]
      · rcases List.mem_or_eq_of_mem_set hq with hq | rfl
        · exact ho q hq
        · exact hok
    · intro s'
      rw [tot_set hp]
      by_cases e3 : p.1 = s'
      · subst e3; rw [if_pos rfl, if_pos rfl, tp]; omega
      · rw [if_neg e3, if_neg e3]; omega
end
section
variable {κ : Type} {ek : κ → Value} {ok : κ → Prop} {k e t : TypeId} {w : World} {b : Nat} {M : List (κ × Int)}
open Go.ChangeMaps (setBlock) in
theorem MapIs.put [DecidableEq κ] (h : MapIs ek ok w b M) (K : KeyEnc k ek ok) (ht : Tryz.prog.underlying t = some (.map k e)) {s : κ} (hok : ok s) (n : Int) :
    ∃ (o2 : Obj) (M' : List (κ × Int)), (Instr.mapUpdate t (.map (some b)) (ek s) (.int .i64 n)).run Tryz.prog w = .ok () (setBlock w b o2) ∧
      MapIs ek ok (setBlock w b o2) b M' ∧ (∀ s', tot M' s' = if s = s' then n else tot M s') ∧ M'.length ≤ M.length + 1 := by
  obtain ⟨es, clock, hb, hs, hm, ho⟩ := h
  obtain ⟨l, hl⟩ := K.key s hok
  have hlt : b < w.heap.size := lt_of_block hb
  have same : ∀ o, (setBlock w b o).heap[b]? = some o := fun o => by simp [setBlock, hlt]
  rcases K.law.find w hl es.toList (mapIs_keys K hm ho) with ⟨h1, h2⟩ | ⟨j, x, h1, h2, h3⟩
  · have h0 := mapIs_none hm h2
    have t0 : tot M s = 0 := tot_of_not h0
    refine ⟨.map (es.push ⟨ek s, .int .i64 n, clock⟩) (clock + 1), M ++ [(s, n)], ?_, ?_, ?_, by simp⟩
    · simp [Instr.mapUpdate, run_underlying ht, MapKept.run_getObj_map hb, K.law.check w false hl, h1, MapKept.run_setObj_map _ hb, Result.andThen, setBlock]
    · exact ⟨_, _, same _, MapKept.stamped_push hs h2, by simp [hm], fun p hp => by
        rcases List.mem_append.1 hp with hp | hp
        · exact ho p hp
        · simp at hp; subst hp; exact hok⟩
    · intro s'
      rw [tot_snoc]
      by_cases e1 : s = s'
      · subst e1; simp [t0]
      · simp [e1]
  · obtain ⟨p, hp, e1, e2⟩ := mapIs_at hm h2
    have : p.1 = s := K.inj _ _ (by rw [← e1, h3])
    subst this
    have hj : es[j]? = some x := by simpa using h2
    have tp := tot_nodup (mapIs_nodup hs hm) (List.mem_of_getElem? hp)
    have hlist : (es.modify j (fun e' => { e' with key := ek p.1, val := .int .i64 n })).toList = es.toList.set j { x with val := .int .i64 n } := by
      rw [Array.toList_modify, Go.ChangeMaps.modify_eq_set _ _ _ _ h2]
      have : ({ x with key := ek p.1, val := .int .i64 n } : MapEntry) = { x with val := .int .i64 n } := by rw [← h3]
      rw [this]
    have hmod : es.modify j (fun e' => { e' with key := ek p.1, val := .int .i64 n }) = es.modify j (fun e' => { e' with val := .int .i64 n }) := by
      apply Array.ext'
      rw [hlist, Array.toList_modify, Go.ChangeMaps.modify_eq_set _ _ _ _ h2]
    refine ⟨.map (es.modify j (fun e' => { e' with key := ek p.1, val := .int .i64 n })) clock, M.set j (p.1, n), ?_, ?_, ?_, by simp⟩
    · simp [Instr.mapUpdate, run_underlying ht, MapKept.run_getObj_map hb, K.law.check w false hl, h1, hj, h3, K.law.stays w hl, MapKept.run_setObj_map _ hb, Result.andThen, setBlock]
    · rw [hmod]
      refine ⟨_, _, same _, MapKept.stamped_modify hs _ _ (fun _ _ => rfl) (fun _ _ _ => rfl), ?_, fun q hq => ?_⟩
      · rw [← hmod, hlist, List.map_set, List.map_set, hm, h3]
      · rcases List.mem_or_eq_of_mem_set hq with hq | rfl
        · exact ho q hq
        · exact hok
    · intro s'
      rw [tot_set hp]
      by_cases e3 : p.1 = s'
      · subst e3; rw [if_pos rfl, if_pos rfl, tp]; omega
      · rw [if_neg e3, if_neg e3]; omega
end
end Go.Proofs.YtldejkhemkjcgaaGreatDoor
namespace Go.Proofs.YtldejkhemkjcgaaGreatDoor
open Go.RowKit
open Go.ChangeMaps (setBlock)
def RangingW {κ : Type} (ek : κ → Value) (ok : κ → Prop) (w : World) (b r : Nat) (M rest : List (κ × Int)) : Prop :=
  ∃ es clock seen, w.heap[b]? = some (.map es clock) ∧ w.heap[r]? = some (.mapIter (some b) clock seen clock) ∧ MapKept.Stamped es clock ∧ es.toList.map (fun x => (x.key, x.val)) = M.map (fun p => (ek p.1, wz p.2)) ∧
    (∀ p ∈ M, ok p.1) ∧ (leftOf es seen).toList.map (fun x => (x.key, x.val)) = rest.map (fun p => (ek p.1, wz p.2)) ∧ b ≠ r
section
variable {κ : Type} {ek : κ → Value} {ok : κ → Prop} {w : World} {b r : Nat} {M rest : List (κ × Int)}
theorem RangingW.move {w1 : World} (h : RangingW ek ok w b r M rest) (hb : w1.heap[b]? = w.heap[b]?) (hr : w1.heap[r]? = w.heap[r]?) : RangingW ek ok w1 b r M rest := by
  obtain ⟨es, clock, seen, h1, h2, h3⟩ := h
  exact ⟨es, clock, seen, by rw [hb]; exact h1, by rw [hr]; exact h2, h3⟩
theorem RangingW.lt (h : RangingW ek ok w b r M rest) : b < w.heap.size ∧ r < w.heap.size := by
  obtain ⟨es, clock, seen, h1, h2, _⟩ := h
  exact ⟨lt_of_block h1, lt_of_block h2⟩
theorem RangingW.keep {w1 : World} (h : RangingW ek ok w b r M rest) (hb : Below w.heap.size w w1) : RangingW ek ok w1 b r M rest := h.move (hb.block b h.lt.1) (hb.block r h.lt.2)
theorem RangingW.grew {w1 : World} {row : Option Nat} (h : RangingW ek ok w b r M rest) (hg : w.grownBy w1 row) (hr : ∀ k, row = some k → b ≠ k ∧ r ≠ k) : RangingW ek ok w1 b r M rest :=
  h.move (hg.block b h.lt.1 (fun e => (hr _ e.symm).1 rfl)) (hg.block r h.lt.2 (fun e => (hr _ e.symm).2 rfl))
theorem RangingW.start {t k e : TypeId} (h : MapWs ek ok w b M) (ht : Tryz.prog.underlying t = some (.map k e)) : ∃ w', (Instr.range t (.map (some b))).run Tryz.prog w = .ok (.pointer (some ⟨w.heap.size, 0, none⟩)) w' ∧ RangingW ek ok w' b w.heap.size M M ∧ Below w.heap.size w w' ∧ w'.heap.size = w.heap.size + 1 := by
  have hlt := h.lt
  obtain ⟨es, clock, hb, hs, hm, ho⟩ := h
  refine ⟨w.alloc (.mapIter (some b) clock #[] clock), ?_, ⟨es, clock, #[], ?_, heap_alloc_new w _, hs, hm, ho, ?_, by omega⟩, bAlloc (Below.refl _ _) _, by simp⟩
  · simp [Instr.range, run_underlying ht, MapKept.run_getObj_map hb, Result.andThen, newObj, Sem.run]
  · rw [Below.heap_alloc _ _ _ hlt]; exact hb
  · have : (leftOf es #[]).toList = es.toList := by unfold leftOf; simp
    rw [this]; exact hm
theorem RangingW.next (h : RangingW ek ok w b r M rest) (ty : TypeId) :
    (rest = [] ∧ (Instr.next (.pointer (some ⟨r, 0, none⟩)) false ty).run Tryz.prog w = .ok (.tuple #[.bool false]) w) ∨
    ∃ (p : κ × Int) (rest' : List (κ × Int)) (w' : World), rest.Perm (p :: rest') ∧ (Instr.next (.pointer (some ⟨r, 0, none⟩)) false ty).run Tryz.prog w = .ok (.tuple #[.bool true, ek p.1, wz p.2]) w' ∧ RangingW ek ok w' b r M rest' ∧
      (Instr.entry (.pointer (some ⟨r, 0, none⟩))).run Tryz.prog w' = .ok (.tuple #[ek p.1, wz p.2]) w' ∧ Bx r w w' ∧ w'.heap.size = w.heap.size ∧ rest'.length + 1 = rest.length := by
  obtain ⟨es, clock, seen, h1, h2, hs, hm, ho, hl, hbr⟩ := h
  rcases run_next_at (P := Tryz.prog) w ty r b clock clock seen es clock h2 h1 hs.1 (Nat.le_refl _) with ⟨h0, hrun⟩ | ⟨x, hx, w1, hw1, hrun⟩
  · left
    refine ⟨?_, hrun⟩
    have : (leftOf es seen).toList = [] := List.eq_nil_of_length_eq_zero (by simpa using h0)
    rw [this] at hl
    exact List.map_eq_nil_iff.1 hl.symm
  · right
    obtain ⟨j, hj⟩ := List.mem_iff_getElem?.1 hx
    obtain ⟨p, hp, e1, e2⟩ : ∃ p, rest[j]? = some p ∧ x.key = ek p.1 ∧ x.val = wz p.2 := by
      have h' := congrArg (fun l => l[j]?) hl
      simp only [List.getElem?_map, hj, Option.map_some] at h'
      cases hp : rest[j]? with
      | none => rw [hp] at h'; cases h'
      | some p =>
        rw [hp] at h'
        simp only [Option.map_some, Option.some.injEq, Prod.mk.injEq] at h'
        exact ⟨p, rfl, h'.1, h'.2⟩
    have hxe : x ∈ es.toList := by
      unfold leftOf at hx
      rw [Array.toList_filter] at hx
      exact (List.mem_filter.1 hx).1
    have hjl := (List.getElem?_eq_some_iff.1 hp)
    obtain ⟨hjl1, _⟩ := hjl
    have hnl : ((leftOf es seen).toList.map (·.born)).Nodup := by
      unfold leftOf
      rw [Array.toList_filter]
      exact hs.2.1.sublist ((List.filter_sublist (l := es.toList)).map _)
    rw [e1, e2] at hrun
    have hw : Bx r w w1 ∧ w1.heap = w.heap := by
      rcases hw1 with rfl | rfl
      · exact ⟨Bx.refl _ _, rfl⟩
      · exact ⟨(Bx.refl _ _).drew, rfl⟩
    have hr1 : r < w1.heap.size := by rw [hw.2]; exact lt_of_block h2
    have hB : Bx r w (setBlock w1 r (.mapIter (some b) clock (seen.push x.born) clock)) := by
      refine ⟨hw.1.os, hw.1.tape, hw.1.output, by simp [setBlock, hw.2], fun k hk hne => ?_⟩
      simp only [setBlock, Array.getElem?_setIfInBounds]
      rw [if_neg (fun e => hne e.symm), hw.2]
    have hat : (setBlock w1 r (.mapIter (some b) clock (seen.push x.born) clock)).heap[r]? = some (.mapIter (some b) clock (seen.push x.born) clock) := by simp [setBlock, hr1]
    have hmb : (setBlock w1 r (.mapIter (some b) clock (seen.push x.born) clock)).heap[b]? = some (.map es clock) := by rw [hB.block b (lt_of_block h1) hbr]; exact h1
    refine ⟨p, rest.eraseIdx j, _, ?_, hrun, ⟨es, clock, seen.push x.born, hmb, hat, hs, hm, ho, ?_, hbr⟩, ?_, hB, by simp [setBlock, hw.2], ?_⟩
    · exact erase_perm hp
    · rw [left_strike, strike_idx hnl hj, Go.ChangeMaps.map_eraseIdx, Go.ChangeMaps.map_eraseIdx, hl]
    · have := run_entry_at (P := Tryz.prog) _ r b clock seen es clock x hat hmb hxe hs.2.1
      rw [e1, e2] at this
      exact this
    · rw [List.length_eraseIdx_of_lt hjl1]; omega
end
section
variable {κ : Type} {ek : κ → Value} {ok : κ → Prop} {w : World} {b r : Nat} {M left : List (κ × Int)}
theorem RangingW.count (h : RangingW ek ok w b r M left) : leftN w b r = left.length := by
  obtain ⟨es, clock, seen, h1, h2, _, _, _, hl, _⟩ := h
  unfold leftN
  rw [h1, h2]
  have := congrArg List.length hl
  simpa using this
theorem RangingW.nodup (h : RangingW ek ok w b r M left) : (M.map Prod.fst).Nodup := by
  obtain ⟨es, clock, seen, _, _, hs, hm, _⟩ := h
  exact mapWs_nodup hs hm
variable {ops : Array Oper} {rest : List Oper} {o : Oper} {a : Act} {Q : Exit → Act → World → Prop}
theorem wp_rangeW (w : World) (hg : o.guard = none) (m : Operand) (t : TypeId) (hop : o.op = Op.range t m) (k e : TypeId) (ht : Tryz.prog.underlying t = some (.map k e)) (b : Nat) (M : List (κ × Int)) (hm : a.eval m = .map (some b)) (h : MapWs ek ok w b M)
    (hK : ∀ w', RangingW ek ok w' b w.heap.size M M → Below w.heap.size w w' → w'.heap.size = w.heap.size + 1 → wpList Tryz.prog ops Q rest (a.put o.dst (.pointer (some ⟨w.heap.size, 0, none⟩))) w') : wpList Tryz.prog ops Q (o :: rest) a w := by
  refine wpList_plain hg fun K' hK' => ?_
  obtain ⟨w', hrun, r1, r2, r3⟩ := RangingW.start h ht
  unfold Oper.wp
  simp [execOp, hop, hm, hrun, Result.andThen]
  exact hK' _ _ (hK w' r1 r2 r3)
theorem wp_nextW (w : World) (hg : o.guard = none) (it : Operand) (hop : o.op = Op.next it false) (b r : Nat) (M left : List (κ × Int)) (hit : a.eval it = .pointer (some ⟨r, 0, none⟩)) (h : RangingW ek ok w b r M left)
    (hDone : left = [] → wpList Tryz.prog ops Q rest (a.put o.dst (.tuple #[.bool false])) w)
    (hMore : ∀ (p : κ × Int) (left' : List (κ × Int)) (w' : World), left.Perm (p :: left') → RangingW ek ok w' b r M left' → (Instr.entry (.pointer (some ⟨r, 0, none⟩))).run Tryz.prog w' = .ok (.tuple #[ek p.1, wz p.2]) w' → Bx r w w' → w'.heap.size = w.heap.size → left'.length + 1 = left.length →
      wpList Tryz.prog ops Q rest (a.put o.dst (.tuple #[.bool true, ek p.1, wz p.2])) w') : wpList Tryz.prog ops Q (o :: rest) a w := by
  refine wpList_plain hg fun K' hK' => ?_
  unfold Oper.wp
  rcases h.next o.type with ⟨h0, hrun⟩ | ⟨p, left', w', hp, hrun, hr, hen, hx, hs, hl⟩
  · simp [execOp, hop, hit, hrun, Result.andThen]
    exact hK' _ _ (hDone h0)
  · simp [execOp, hop, hit, hrun, Result.andThen]
    exact hK' _ _ (hMore p left' w' hp hr hen hx hs hl)
end
end Go.Proofs.YtldejkhemkjcgaaGreatDoor
