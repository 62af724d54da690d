/- Maps under keys that are structs, with numbers as values: what stands in one, looked up, added to. -/
import Derived.Test.YtlddhfimiignaaaGb1
import Derived.DeepKeys5
import Derived.WideKeyEntry
import Derived.Maps.RangeWalk
import Derived.Test.YtlddhfimiignaaaGp1
/-! Maps under keys that are structs, with numbers as values: what stands in one, looked up, added to. -/
namespace Go.Proofs.Ytlddhfimiignaaa
open Go.RowKit

section
variable {κ : Type} [DecidableEq κ]
theorem tot_nodup {M : List (κ × Int)} (hn : (M.map Prod.fst).Nodup) {r : κ × Int} (hr : r ∈ M) : tot M r.1 = r.2 := by
  induction M with
  | nil => simp at hr
  | cons x M ih =>
    simp only [List.map_cons, List.nodup_cons] at hn
    simp only [tot]
    rcases List.mem_cons.1 hr with rfl | hr
    · rw [if_pos rfl, tot_of_not (fun q hq e => hn.1 (List.mem_map.2 ⟨q, hq, e⟩))]; omega
    · rw [if_neg (fun e => hn.1 (List.mem_map.2 ⟨r, hr, e.symm⟩)), ih hn.2 hr]; omega
theorem tot_set {M : List (κ × Int)} {j : Nat} {r : κ × Int} (hj : M[j]? = some r) (n : Int) (s : κ) : tot (M.set j (r.1, n)) s = tot M s + (if r.1 = s then n - r.2 else 0) := by
  induction M generalizing j with
  | nil => simp at hj
  | cons x M ih =>
    cases j with
    | zero =>
      simp at hj; subst hj
      simp only [List.set_cons_zero, tot]; split <;> omega
    | succ j =>
      simp only [List.set_cons_succ, tot]
      rw [ih (by simpa using hj)]; omega
end
/-- Keys of a type k that are told by values of κ. -/
structure KeyEnc {κ : Type} (k : TypeId) (ek : κ → Value) (ok : κ → Prop) : Prop where
  law : WideMaps.KeyLaw Try.prog k
  key : ∀ s, ok s → ∃ l, keyOf Try.prog k (ek s) = some l
  inj : ∀ s s', ek s = ek s' → s = s'
/-- Block b is a map in which just M stands, each key once. -/
def MapIs {κ : Type} (ek : κ → Value) (ok : κ → Prop) (w : World) (b : Nat) (M : List (κ × Int)) : Prop :=
  ∃ es clock, w.heap[b]? = some (.map es clock) ∧ MapKept.Stamped es clock ∧ es.toList.map (fun x => (x.key, x.val)) = M.map (fun p => (ek p.1, Value.int .i64 p.2)) ∧ ∀ p ∈ M, ok p.1
section
variable {κ : Type} {ek : κ → Value} {ok : κ → Prop} {k e t : TypeId} {w : World} {b : Nat} {M : List (κ × Int)}
theorem MapIs.lt (h : MapIs ek ok w b M) : b < w.heap.size := by
  obtain ⟨es, clock, hb, _⟩ := h
  exact lt_of_block hb
theorem MapIs.move {w1 : World} (h : MapIs ek ok w b M) (hb : w1.heap[b]? = w.heap[b]?) : MapIs ek ok w1 b M := by
  obtain ⟨es, clock, h1, r⟩ := h
  exact ⟨es, clock, by rw [hb]; exact h1, r⟩
theorem MapIs.keep {w1 : World} (h : MapIs ek ok w b M) (hb : Below w.heap.size w w1) : MapIs ek ok w1 b M := h.move (hb.block b h.lt)
theorem MapIs.new (w : World) (hB : b = w.heap.size) : MapIs ek ok (w.alloc (.map #[] 0)) b [] := by
  subst hB
  exact ⟨#[], 0, heap_alloc_new w _, MapKept.stamped_empty 0, by simp, by simp⟩
theorem mapIs_at {es : Array MapEntry} (hm : es.toList.map (fun x => (x.key, x.val)) = M.map (fun p => (ek p.1, Value.int .i64 p.2))) {j : Nat} {x : MapEntry} (hx : es.toList[j]? = some x) : ∃ p, M[j]? = some p ∧ x.key = ek p.1 ∧ x.val = .int .i64 p.2 := by
  have h := congrArg (fun l => l[j]?) hm
  simp only [List.getElem?_map, hx, Option.map_some] at h
  cases hp : M[j]? with
  | none => rw [hp] at h; cases h
  | some p =>
    rw [hp] at h
    simp only [Option.map_some, Option.some.injEq, Prod.mk.injEq] at h
    exact ⟨p, rfl, h.1, h.2⟩
theorem mapIs_keys (K : KeyEnc k ek ok) {es : Array MapEntry} (hm : es.toList.map (fun x => (x.key, x.val)) = M.map (fun p => (ek p.1, Value.int .i64 p.2))) (ho : ∀ p ∈ M, ok p.1) : ∀ x ∈ es.toList, ∃ l, keyOf Try.prog k x.key = some l := by
  intro x hx
  obtain ⟨j, hj⟩ := List.mem_iff_getElem?.1 hx
  obtain ⟨p, hp, h1, _⟩ := mapIs_at hm hj
  rw [h1]
  exact K.key _ (ho p (List.mem_of_getElem? hp))
theorem mapIs_none {es : Array MapEntry} (hm : es.toList.map (fun x => (x.key, x.val)) = M.map (fun p => (ek p.1, Value.int .i64 p.2))) {s : κ} (h : ∀ x ∈ es.toList, x.key ≠ ek s) : ∀ r ∈ M, r.1 ≠ s := by
  intro r hr e
  obtain ⟨j, hj⟩ := List.mem_iff_getElem?.1 hr
  have h' := congrArg (fun l => l[j]?) hm
  simp only [List.getElem?_map, hj, Option.map_some] at h'
  cases hx : es.toList[j]? with
  | none => rw [hx] at h'; cases h'
  | some x =>
    rw [hx] at h'
    simp only [Option.map_some, Option.some.injEq, Prod.mk.injEq] at h'
    exact h x (List.mem_of_getElem? hx) (by rw [h'.1, e])
theorem mapIs_nodup {es : Array MapEntry} {clock : Nat} (hs : MapKept.Stamped es clock) (hm : es.toList.map (fun x => (x.key, x.val)) = M.map (fun p => (ek p.1, Value.int .i64 p.2))) : (M.map Prod.fst).Nodup := by
  have h1 : es.toList.map (·.key) = M.map (fun p => ek p.1) := by
    have := congrArg (List.map Prod.fst) hm
    simpa [List.map_map, Function.comp_def] using this
  have h2 := hs.2.2
  rw [h1] at h2
  have : (M.map fun p => ek p.1) = (M.map Prod.fst).map ek := by simp [List.map_map, Function.comp_def]
  rw [this] at h2
  exact (List.pairwise_map.1 h2).imp fun h e => h (by rw [e])
theorem MapIs.nodup (h : MapIs ek ok w b M) : (M.map Prod.fst).Nodup := by
  obtain ⟨es, clock, _, hs, hm, _⟩ := h
  exact mapIs_nodup hs hm
/-- 'm[s]'. -/
theorem MapIs.look [DecidableEq κ] (h : MapIs ek ok w b M) (K : KeyEnc k ek ok) (ht : Try.prog.underlying t = some (.map k e)) (hz : ∀ w, (zeroValue e).run Try.prog w = .ok (.int .i64 0) w) {s : κ} (hok : ok s) :
    (Instr.lookup t (.map (some b)) (ek s) false).run Try.prog w = .ok (.int .i64 (tot M s)) w := by
  obtain ⟨es, clock, hb, hs, hm, ho⟩ := h
  obtain ⟨l, hl⟩ := K.key s hok
  rcases K.law.find w hl es.toList (mapIs_keys K hm ho) with ⟨h1, h2⟩ | ⟨j, x, h1, h2, h3⟩
  · rw [tot_of_not (mapIs_none hm h2)]
    simp [Instr.lookup, run_underlying ht, MapKept.run_getObj_map hb, K.law.check w _ hl, h1, hz, Result.andThen]
  · obtain ⟨p, hp, e1, e2⟩ := mapIs_at hm h2
    have : p.1 = s := K.inj _ _ (by rw [← e1, h3])
    subst this
    rw [tot_nodup (mapIs_nodup hs hm) (List.mem_of_getElem? hp), ← e2]
    simp [Instr.lookup, run_underlying ht, MapKept.run_getObj_map hb, K.law.check w _ hl, h1, Result.andThen]
open Go.ChangeMaps (setBlock) in
/-- 'm[s] = n' by the entry and its stamp; what is looked up between the two is as it was. -/
theorem MapIs.enter [DecidableEq κ] (h : MapIs ek ok w b M) (K : KeyEnc k ek ok) (ht : Try.prog.underlying t = some (.map k e)) (hz : ∀ w, (zeroValue e).run Try.prog w = .ok (.int .i64 0) w) {s : κ} (hok : ok s) (n : Int) :
    ∃ (st : Nat) (o1 o2 : Obj) (M' : List (κ × Int)), (Instr.mapEntry t (.map (some b)) (ek s)).run Try.prog w = .ok (.tuple #[.int .i64 (tot M s), goInt st]) (setBlock w b o1) ∧
      (Instr.lookup t (.map (some b)) (ek s) false).run Try.prog (setBlock w b o1) = .ok (.int .i64 (tot M s)) (setBlock w b o1) ∧
      (Instr.entryStore t (.map (some b)) (goInt st) (.int .i64 n)).run Try.prog (setBlock w b o1) = .ok () (setBlock w b o2) ∧
      MapIs ek ok (setBlock w b o2) b M' ∧ (∀ s', tot M' s' = if s = s' then n else tot M s') ∧ M'.length ≤ M.length + 1 := by
  have hM := h
  obtain ⟨es, clock, hb, hs, hm, ho⟩ := h
  obtain ⟨l, hl⟩ := K.key s hok
  have hlt : b < w.heap.size := lt_of_block hb
  have same : ∀ o, (setBlock w b o).heap[b]? = some o := fun o => by simp [setBlock, hlt]
  have twice : ∀ o o', setBlock (setBlock w b o) b o' = setBlock w b o' := fun o o' => by simp [setBlock]
  have hlen : es.size = M.length := by have := congrArg List.length hm; simpa using this
  rcases K.law.find w hl es.toList (mapIs_keys K hm ho) with ⟨h1, h2⟩ | ⟨j, x, h1, h2, h3⟩
  · have h0 := mapIs_none hm h2
    have t0 : tot M s = 0 := tot_of_not h0
    have m1 : MapIs ek ok (setBlock w b (.map (es.push ⟨ek s, .int .i64 0, clock⟩) (clock + 1))) b (M ++ [(s, 0)]) :=
      ⟨_, _, same _, MapKept.stamped_push hs h2, by simp [hm], fun p hp => by
        rcases List.mem_append.1 hp with hp | hp
        · exact ho p hp
        · simp at hp; subst hp; exact hok⟩
    refine ⟨clock, .map (es.push ⟨ek s, .int .i64 0, clock⟩) (clock + 1), .map (es.push ⟨ek s, .int .i64 n, clock⟩) (clock + 1), M ++ [(s, n)], ?_, ?_, ?_, ?_, ?_, by simp⟩
    · rw [t0]
      simp [Instr.mapEntry, run_underlying ht, MapKept.run_getObj_map hb, K.law.check w false hl, h1, hz, MapKept.run_setObj_map _ hb, Result.andThen, setBlock]
    · have := m1.look K ht hz hok
      rw [tot_snoc] at this
      simpa using this
    · have hidx : (es.push ⟨ek s, .int .i64 0, clock⟩).findIdx? (fun e => ((e.born : Nat) : Int) == ((clock : Nat) : Int)) = some es.size := by
        rw [Go.WideElems.findIdx_arr]
        refine Go.WideElems.findIdx_born (l := (es.push ⟨ek s, .int .i64 0, clock⟩).toList) (j := es.size) (e0 := ⟨ek s, .int .i64 0, clock⟩) ?_ (by simp)
        simp only [Array.toList_push, List.map_append, List.map_cons, List.map_nil]
        refine List.nodup_append.2 ⟨hs.2.1, by simp, fun a ha c hc e1 => ?_⟩
        simp only [List.mem_singleton] at hc
        obtain ⟨x, hx, rfl⟩ := List.mem_map.1 ha
        have := hs.1 x hx
        omega
      have hmod : (es.push ⟨ek s, .int .i64 0, clock⟩).modify es.size (fun e => { e with val := .int .i64 n }) = es.push ⟨ek s, .int .i64 n, clock⟩ := by
        apply Array.ext'
        rw [Array.toList_modify, Array.toList_push, Array.toList_push, ← Array.length_toList, Go.WideElems.modify_last]
      have hw1 := same (.map (es.push ⟨ek s, .int .i64 0, clock⟩) (clock + 1))
      have htw := twice (.map (es.push ⟨ek s, .int .i64 0, clock⟩) (clock + 1)) (.map (es.push ⟨ek s, .int .i64 n, clock⟩) (clock + 1))
      generalize setBlock w b (.map (es.push ⟨ek s, .int .i64 0, clock⟩) (clock + 1)) = w1 at hw1 htw ⊢
      rw [← htw]
      simp [Instr.entryStore, MapKept.run_getObj_map hw1, asInt, asIntOf, goInt, hidx, hmod, MapKept.run_setObj_map _ hw1, Result.andThen, setBlock]
    · exact ⟨_, _, same _, MapKept.stamped_push hs h2, by simp [hm], fun p hp => by
        rcases List.mem_append.1 hp with hp | hp
        · exact ho p hp
        · simp at hp; subst hp; exact hok⟩
    · intro s'
      rw [tot_snoc]
      by_cases e1 : s = s'
      · subst e1; simp [t0]
      · simp [e1]
  · obtain ⟨p, hp, e1, e2⟩ := mapIs_at hm h2
    have : p.1 = s := K.inj _ _ (by rw [← e1, h3])
    subst this
    have hj : es[j]? = some x := by simpa using h2
    have tp := tot_nodup (mapIs_nodup hs hm) (List.mem_of_getElem? hp)
    have hjl : j < es.toList.length := (List.getElem?_eq_some_iff.1 h2).1
    have hsame : es.modify j (fun e => { e with key := ek p.1 }) = es := by
      apply Array.ext'
      rw [Array.toList_modify, Go.ChangeMaps.modify_eq_set _ _ _ _ h2]
      have : ({ x with key := ek p.1 } : MapEntry) = x := by rw [← h3]
      rw [this]
      exact Go.WideElems.set_self _ _ _ h2
    have hself : setBlock w b (.map es clock) = w := by
      have hx : w.heap.setIfInBounds b (.map es clock) = w.heap := by
        apply Array.ext_getElem?
        intro i
        rw [Array.getElem?_setIfInBounds]
        by_cases hi : b = i
        · subst hi; rw [if_pos rfl, if_pos hlt, hb]
        · rw [if_neg hi]
      simp only [setBlock, hx]
    have hlist : (es.modify j (fun e' => { e' with val := .int .i64 n })).toList = es.toList.set j { x with val := .int .i64 n } := by
      rw [Array.toList_modify, Go.ChangeMaps.modify_eq_set _ _ _ _ h2]
    refine ⟨x.born, .map es clock, .map (es.modify j (fun e' => { e' with val := .int .i64 n })) clock, M.set j (p.1, n), ?_, ?_, ?_, ?_, ?_, by simp⟩
    · rw [tp, ← e2]
      simp [Instr.mapEntry, run_underlying ht, MapKept.run_getObj_map hb, K.law.check w false hl, h1, hj, h3, K.law.stays w hl, hsame, MapKept.run_setObj_map _ hb, Result.andThen, setBlock]
    · rw [hself]
      exact hM.look K ht hz hok
    · rw [hself]
      have hidx : es.findIdx? (fun e => ((e.born : Nat) : Int) == ((x.born : Nat) : Int)) = some j := by
        rw [Go.WideElems.findIdx_arr]
        exact Go.WideElems.findIdx_born hs.2.1 h2
      simp [Instr.entryStore, MapKept.run_getObj_map hb, asInt, asIntOf, goInt, hidx, MapKept.run_setObj_map _ hb, Result.andThen, setBlock]
    · refine ⟨_, _, same _, MapKept.stamped_modify hs _ _ (fun _ _ => rfl) (fun _ _ _ => rfl), ?_, fun q hq => ?_⟩
      · rw [hlist, List.map_set, List.map_set, hm, h3]
      · rcases List.mem_or_eq_of_mem_set hq with hq | rfl
        · exact ho q hq
        · exact hok
    · intro s'
      rw [tot_set hp]
      by_cases e3 : p.1 = s'
      · subst e3; rw [if_pos rfl, if_pos rfl, tp]; omega
      · rw [if_neg e3, if_neg e3]; omega
end
end Go.Proofs.Ytlddhfimiignaaa

/-! A range over such a map: each entry comes once, in whatever order. -/
namespace Go.Proofs.Ytlddhfimiignaaa
open Go.RowKit
open Go.ChangeMaps (setBlock)

theorem strike_idx {L : List MapEntry} (hn : (L.map (·.born)).Nodup) {j : Nat} {e : MapEntry} (h : L[j]? = some e) : L.filter (fun x => !(x.born == e.born)) = L.eraseIdx j := by
  induction L generalizing j with
  | nil => simp at h
  | cons a l ih =>
    simp only [List.map_cons, List.nodup_cons] at hn
    cases j with
    | zero =>
      simp at h; subst h
      rw [List.filter_cons]
      simp only [beq_self_eq_true, Bool.not_true, Bool.false_eq_true, if_false, List.eraseIdx_cons_zero]
      refine List.filter_eq_self.2 fun x hx => ?_
      have : x.born ≠ a.born := fun e1 => hn.1 (List.mem_map.2 ⟨x, hx, e1⟩)
      simpa using this
    | succ j =>
      have h' : l[j]? = some e := by simpa using h
      have hne : a.born ≠ e.born := fun e1 => hn.1 (List.mem_map.2 ⟨e, List.mem_of_getElem? h', e1.symm⟩)
      rw [List.filter_cons, if_pos (by simpa using hne), ih hn.2 h', List.eraseIdx_cons_succ]
theorem erase_perm {α : Type} {l : List α} {j : Nat} {x : α} (h : l[j]? = some x) : l.Perm (x :: l.eraseIdx j) := by
  induction l generalizing j with
  | nil => simp at h
  | cons a l ih =>
    cases j with
    | zero => simp at h; subst h; simp
    | succ j =>
      rw [List.eraseIdx_cons_succ]
      exact ((ih (by simpa using h)).cons a).trans (List.Perm.swap x a _)
theorem left_strike (es : Array MapEntry) (seen : Array Nat) (b : Nat) : (leftOf es (seen.push b)).toList = (leftOf es seen).toList.filter (fun x => !(x.born == b)) := by
  unfold leftOf
  rw [Array.toList_filter, Array.toList_filter, List.filter_filter]
  congr 1
  funext x
  rw [Array.contains_push]
  cases seen.contains x.born <;> cases (x.born == b) <;> rfl
/-- A range over the map b, its place kept in r; what is still to come. -/
def Ranging {κ : Type} (ek : κ → Value) (ok : κ → Prop) (w : World) (b r : Nat) (M rest : List (κ × Int)) : Prop :=
  ∃ es clock seen, w.heap[b]? = some (.map es clock) ∧ w.heap[r]? = some (.mapIter (some b) clock seen clock) ∧ MapKept.Stamped es clock ∧ es.toList.map (fun x => (x.key, x.val)) = M.map (fun p => (ek p.1, Value.int .i64 p.2)) ∧
    (∀ p ∈ M, ok p.1) ∧ (leftOf es seen).toList.map (fun x => (x.key, x.val)) = rest.map (fun p => (ek p.1, Value.int .i64 p.2)) ∧ b ≠ r
section
variable {κ : Type} {ek : κ → Value} {ok : κ → Prop} {w : World} {b r : Nat} {M rest : List (κ × Int)}
theorem Ranging.move {w1 : World} (h : Ranging ek ok w b r M rest) (hb : w1.heap[b]? = w.heap[b]?) (hr : w1.heap[r]? = w.heap[r]?) : Ranging ek ok w1 b r M rest := by
  obtain ⟨es, clock, seen, h1, h2, h3⟩ := h
  exact ⟨es, clock, seen, by rw [hb]; exact h1, by rw [hr]; exact h2, h3⟩
theorem Ranging.lt (h : Ranging ek ok w b r M rest) : b < w.heap.size ∧ r < w.heap.size := by
  obtain ⟨es, clock, seen, h1, h2, _⟩ := h
  exact ⟨lt_of_block h1, lt_of_block h2⟩
theorem Ranging.keep {w1 : World} (h : Ranging ek ok w b r M rest) (hb : Below w.heap.size w w1) : Ranging ek ok w1 b r M rest := h.move (hb.block b h.lt.1) (hb.block r h.lt.2)
theorem Ranging.grew {w1 : World} {row : Option Nat} (h : Ranging ek ok w b r M rest) (hg : w.grownBy w1 row) (hr : ∀ k, row = some k → b ≠ k ∧ r ≠ k) : Ranging ek ok w1 b r M rest :=
  h.move (hg.block b h.lt.1 (fun e => (hr _ e.symm).1 rfl)) (hg.block r h.lt.2 (fun e => (hr _ e.symm).2 rfl))
theorem Ranging.start {t k e : TypeId} (h : MapIs ek ok w b M) (ht : Try.prog.underlying t = some (.map k e)) : ∃ w', (Instr.range t (.map (some b))).run Try.prog w = .ok (.pointer (some ⟨w.heap.size, 0, none⟩)) w' ∧ Ranging ek ok w' b w.heap.size M M ∧ Below w.heap.size w w' ∧ w'.heap.size = w.heap.size + 1 := by
  have hlt := h.lt
  obtain ⟨es, clock, hb, hs, hm, ho⟩ := h
  refine ⟨w.alloc (.mapIter (some b) clock #[] clock), ?_, ⟨es, clock, #[], ?_, heap_alloc_new w _, hs, hm, ho, ?_, by omega⟩, bAlloc (Below.refl _ _) _, by simp⟩
  · simp [Instr.range, run_underlying ht, MapKept.run_getObj_map hb, Result.andThen, newObj, Sem.run]
  · rw [Below.heap_alloc _ _ _ hlt]; exact hb
  · have : (leftOf es #[]).toList = es.toList := by unfold leftOf; simp
    rw [this]; exact hm
/-- The step: nothing is left, or one of what is left has come. -/
theorem Ranging.next (h : Ranging ek ok w b r M rest) (ty : TypeId) :
    (rest = [] ∧ (Instr.next (.pointer (some ⟨r, 0, none⟩)) false ty).run Try.prog w = .ok (.tuple #[.bool false]) w) ∨
    ∃ (p : κ × Int) (rest' : List (κ × Int)) (w' : World), rest.Perm (p :: rest') ∧ (Instr.next (.pointer (some ⟨r, 0, none⟩)) false ty).run Try.prog w = .ok (.tuple #[.bool true, ek p.1, .int .i64 p.2]) w' ∧ Ranging ek ok w' b r M rest' ∧
      (Instr.entry (.pointer (some ⟨r, 0, none⟩))).run Try.prog w' = .ok (.tuple #[ek p.1, .int .i64 p.2]) w' ∧ Bx r w w' ∧ w'.heap.size = w.heap.size ∧ rest'.length + 1 = rest.length := by
  obtain ⟨es, clock, seen, h1, h2, hs, hm, ho, hl, hbr⟩ := h
  rcases run_next_at (P := Try.prog) w ty r b clock clock seen es clock h2 h1 hs.1 (Nat.le_refl _) with ⟨h0, hrun⟩ | ⟨x, hx, w1, hw1, hrun⟩
  · left
    refine ⟨?_, hrun⟩
    have : (leftOf es seen).toList = [] := List.eq_nil_of_length_eq_zero (by simpa using h0)
    rw [this] at hl
    exact List.map_eq_nil_iff.1 hl.symm
  · right
    obtain ⟨j, hj⟩ := List.mem_iff_getElem?.1 hx
    obtain ⟨p, hp, e1, e2⟩ : ∃ p, rest[j]? = some p ∧ x.key = ek p.1 ∧ x.val = .int .i64 p.2 := by
      have h' := congrArg (fun l => l[j]?) hl
      simp only [List.getElem?_map, hj, Option.map_some] at h'
      cases hp : rest[j]? with
      | none => rw [hp] at h'; cases h'
      | some p =>
        rw [hp] at h'
        simp only [Option.map_some, Option.some.injEq, Prod.mk.injEq] at h'
        exact ⟨p, rfl, h'.1, h'.2⟩
    have hxe : x ∈ es.toList := by
      unfold leftOf at hx
      rw [Array.toList_filter] at hx
      exact (List.mem_filter.1 hx).1
    have hjl := (List.getElem?_eq_some_iff.1 hp)
    obtain ⟨hjl1, _⟩ := hjl
    have hnl : ((leftOf es seen).toList.map (·.born)).Nodup := by
      unfold leftOf
      rw [Array.toList_filter]
      exact hs.2.1.sublist ((List.filter_sublist (l := es.toList)).map _)
    rw [e1, e2] at hrun
    have hw : Bx r w w1 ∧ w1.heap = w.heap := by
      rcases hw1 with rfl | rfl
      · exact ⟨Bx.refl _ _, rfl⟩
      · exact ⟨(Bx.refl _ _).drew, rfl⟩
    have hr1 : r < w1.heap.size := by rw [hw.2]; exact lt_of_block h2
    have hB : Bx r w (setBlock w1 r (.mapIter (some b) clock (seen.push x.born) clock)) := by
      refine ⟨hw.1.os, hw.1.tape, hw.1.output, by simp [setBlock, hw.2], fun k hk hne => ?_⟩
      simp only [setBlock, Array.getElem?_setIfInBounds]
      rw [if_neg (fun e => hne e.symm), hw.2]
    have hat : (setBlock w1 r (.mapIter (some b) clock (seen.push x.born) clock)).heap[r]? = some (.mapIter (some b) clock (seen.push x.born) clock) := by simp [setBlock, hr1]
    have hmb : (setBlock w1 r (.mapIter (some b) clock (seen.push x.born) clock)).heap[b]? = some (.map es clock) := by rw [hB.block b (lt_of_block h1) hbr]; exact h1
    refine ⟨p, rest.eraseIdx j, _, ?_, hrun, ⟨es, clock, seen.push x.born, hmb, hat, hs, hm, ho, ?_, hbr⟩, ?_, hB, by simp [setBlock, hw.2], ?_⟩
    · exact erase_perm hp
    · rw [left_strike, strike_idx hnl hj, Go.ChangeMaps.map_eraseIdx, Go.ChangeMaps.map_eraseIdx, hl]
    · have := run_entry_at (P := Try.prog) _ r b clock seen es clock x hat hmb hxe hs.2.1
      rw [e1, e2] at this
      exact this
    · rw [List.length_eraseIdx_of_lt hjl1]; omega
end
end Go.Proofs.Ytlddhfimiignaaa

/-! The two kinds of keys of the program's maps. -/
namespace Go.Proofs.Ytlddhfimiignaaa
open Go.RowKit

def fit63 (n : Int) : Prop := -4611686018427387904 ≤ n ∧ n ≤ 4611686018427387904
theorem wf63 {n : Int} (h : fit63 n) : (Lit.int .i64 n).wf = true := by
  obtain ⟨h1, h2⟩ := h
  have e1 : IntKind.i64.min = -9223372036854775808 := by decide
  have e2 : IntKind.i64.max = 9223372036854775807 := by decide
  simp only [Lit.wf, e1, e2]
  simp
  omega
abbrev spV (s : Sp) : Value := .agg #[.int .i64 s.1.1, .int .i64 s.1.2, .int .i64 s.2.1, .int .i64 s.2.2]
abbrev thV (s : Int × Int) : Value := .agg #[.int .i64 s.1, .int .i64 s.2]
def spOk (s : Sp) : Prop := fit63 s.1.1 ∧ fit63 s.1.2 ∧ fit63 s.2.1 ∧ fit63 s.2.2
def thOk (s : Int × Int) : Prop := fit63 s.1 ∧ fit63 s.2
theorem sizeT : ∃ m, Try.prog.types.size = m + 3 := ⟨Try.prog.types.size - 3, by kernel_rfl⟩
theorem lawS : WideMaps.KeyLaw Try.prog 154 := deep_law_laid pfLaid (m := 6) (by omega) (of_decide_eq_true (by kernel_rfl)) (by kernel_rfl) (by kernel_rfl)
theorem lawT : WideMaps.KeyLaw Try.prog 69 := deep_law_laid pfLaid (m := 6) (by omega) (of_decide_eq_true (by kernel_rfl)) (by kernel_rfl) (by kernel_rfl)
theorem litI (D : Nat) {n : Int} (h : (Lit.int .i64 n).wf = true) : Try.prog.keyLits (D + 1) 3 [.int .i64 n] = some [.int .i64 n] := by
  simp [Program.keyLits, Try.underlying3, h]
theorem litT (D : Nat) {a b : Int} (ha : (Lit.int .i64 a).wf = true) (hb : (Lit.int .i64 b).wf = true) : Try.prog.keyLits (D + 2) 45 [.int .i64 a, .int .i64 b] = some [.int .i64 a, .int .i64 b] := by
  have c2 : Try.prog.cellsOf 45 = 2 := by kernel_rfl
  have c3 : Try.prog.cellsOf 3 = 1 := by kernel_rfl
  unfold Program.keyLits
  rw [Try.underlying45]
  simp only
  rw [if_pos ⟨c2.symm, by kernel_rfl⟩]
  simp [c3, litI _ ha, litI _ hb]
theorem keyS (s : Sp) (h : spOk s) : ∃ l, keyOf Try.prog 154 (spV s) = some l := by
  obtain ⟨h0, h1, h2, h3⟩ := h
  have w0 := wf63 h0
  have w1 := wf63 h1
  have w2 := wf63 h2
  have w3 := wf63 h3
  have hk : Try.prog.keyType 154 = true := by kernel_rfl
  have c1 : Try.prog.cellsOf 154 = 4 := by kernel_rfl
  have c2 : Try.prog.cellsOf 45 = 2 := by kernel_rfl
  have c3 : Try.prog.cellsOf 3 = 1 := by kernel_rfl
  obtain ⟨m, hm⟩ := sizeT
  unfold keyOf
  rw [Try.underlying154]
  simp only [hk, Bool.true_and]
  have hf : (spV s).formed Try.prog 154 = true := by
    simp [Value.formed, Try.underlying154, c1]
  rw [hf, if_pos rfl, hm]
  unfold Program.keyLits
  rw [Try.underlying154]
  simp only
  rw [if_pos ⟨by rw [c1]; simp [Value.cells], by kernel_rfl⟩]
  simp [c2, c3, Value.cells, litI _ w0, litI _ w1, litT _ w2 w3]
theorem keyT (s : Int × Int) (h : thOk s) : ∃ l, keyOf Try.prog 69 (thV s) = some l := by
  obtain ⟨h0, h1⟩ := h
  have w0 := wf63 h0
  have w1 := wf63 h1
  have hk : Try.prog.keyType 69 = true := by kernel_rfl
  have c1 : Try.prog.cellsOf 69 = 2 := by kernel_rfl
  have c3 : Try.prog.cellsOf 3 = 1 := by kernel_rfl
  obtain ⟨m, hm⟩ := sizeT
  unfold keyOf
  rw [Try.underlying69]
  simp only [hk, Bool.true_and]
  have hf : (thV s).formed Try.prog 69 = true := by
    simp [Value.formed, Try.underlying69, c1]
  rw [hf, if_pos rfl, hm]
  unfold Program.keyLits
  rw [Try.underlying69]
  simp only
  rw [if_pos ⟨by rw [c1]; simp [Value.cells], by kernel_rfl⟩]
  simp [c3, Value.cells, litI _ w0, litI _ w1]
theorem encS : KeyEnc 154 spV spOk := ⟨lawS, keyS, fun s s' h => by
  simp at h; exact Prod.ext (Prod.ext h.1 h.2.1) (Prod.ext h.2.2.1 h.2.2.2)⟩
theorem encT : KeyEnc 69 thV thOk := ⟨lawT, keyT, fun s s' h => by
  simp at h; exact Prod.ext h.1 h.2⟩
end Go.Proofs.Ytlddhfimiignaaa

/-! A range over such a map, in a walk: the laws at its operations; and what is collected out of a map and sorted. -/
namespace Go.Proofs.Ytlddhfimiignaaa
open Go.RowKit
open Go.ChangeMaps (setBlock)

theorem below_setBlock {B : Nat} {w W : World} {b : Nat} {o : Obj} (h : Below B w W) (hb : B ≤ b) : Below B w (setBlock W b o) := by
  refine ⟨h.os, h.tape, h.output, by simp [setBlock, h.size], fun k hk => ?_⟩
  simp only [setBlock, Array.getElem?_setIfInBounds]
  rw [if_neg (by omega)]; exact h.block k hk
theorem size_setBlock (W : World) (b : Nat) (o : Obj) : (setBlock W b o).heap.size = W.heap.size := by simp [setBlock]
/-- How many entries are still to come. -/
def leftN (w : World) (b r : Nat) : Nat :=
  match w.heap[b]?, w.heap[r]? with
  | some (.map es _), some (.mapIter _ _ seen _) => (leftOf es seen).size
  | _, _ => 0
section
variable {κ : Type} {ek : κ → Value} {ok : κ → Prop} {w : World} {b r : Nat} {M left : List (κ × Int)}
theorem Ranging.count (h : Ranging ek ok w b r M left) : leftN w b r = left.length := by
  obtain ⟨es, clock, seen, h1, h2, _, _, _, hl, _⟩ := h
  unfold leftN
  rw [h1, h2]
  have := congrArg List.length hl
  simpa using this
theorem Ranging.nodup (h : Ranging ek ok w b r M left) : (M.map Prod.fst).Nodup := by
  obtain ⟨es, clock, seen, _, _, hs, hm, _⟩ := h
  exact mapIs_nodup hs hm
variable {ops : Array Oper} {rest : List Oper} {o : Oper} {a : Act} {Q : Exit → Act → World → Prop}
theorem wp_range (w : World) (hg : o.guard = none) (m : Operand) (t : TypeId) (hop : o.op = Op.range t m) (k e : TypeId) (ht : Try.prog.underlying t = some (.map k e)) (b : Nat) (M : List (κ × Int)) (hm : a.eval m = .map (some b)) (h : MapIs ek ok w b M)
    (hK : ∀ w', Ranging ek ok w' b w.heap.size M M → Below w.heap.size w w' → w'.heap.size = w.heap.size + 1 → wpList Try.prog ops Q rest (a.put o.dst (.pointer (some ⟨w.heap.size, 0, none⟩))) w') : wpList Try.prog ops Q (o :: rest) a w := by
  refine wpList_plain hg fun K' hK' => ?_
  obtain ⟨w', hrun, r1, r2, r3⟩ := Ranging.start h ht
  unfold Oper.wp
  simp [execOp, hop, hm, hrun, Result.andThen]
  exact hK' _ _ (hK w' r1 r2 r3)
theorem wp_next (w : World) (hg : o.guard = none) (it : Operand) (hop : o.op = Op.next it false) (b r : Nat) (M left : List (κ × Int)) (hit : a.eval it = .pointer (some ⟨r, 0, none⟩)) (h : Ranging ek ok w b r M left)
    (hDone : left = [] → wpList Try.prog ops Q rest (a.put o.dst (.tuple #[.bool false])) w)
    (hMore : ∀ (p : κ × Int) (left' : List (κ × Int)) (w' : World), left.Perm (p :: left') → Ranging ek ok w' b r M left' → (Instr.entry (.pointer (some ⟨r, 0, none⟩))).run Try.prog w' = .ok (.tuple #[ek p.1, .int .i64 p.2]) w' → Bx r w w' → w'.heap.size = w.heap.size → left'.length + 1 = left.length →
      wpList Try.prog ops Q rest (a.put o.dst (.tuple #[.bool true, ek p.1, .int .i64 p.2])) w') : wpList Try.prog ops Q (o :: rest) a w := by
  refine wpList_plain hg fun K' hK' => ?_
  unfold Oper.wp
  rcases h.next o.type with ⟨h0, hrun⟩ | ⟨p, left', w', hp, hrun, hr, hen, hx, hs, hl⟩
  · simp [execOp, hop, hit, hrun, Result.andThen]
    exact hK' _ _ (hDone h0)
  · simp [execOp, hop, hit, hrun, Result.andThen]
    exact hK' _ _ (hMore p left' w' hp hr hen hx hs hl)
end
section
variable {K : Type} {lt : K → K → Bool}
/-- What is collected out of a map, none of nothing, and sorted, is what was summed up. -/
theorem collected [DecidableEq K] (O : Ord lt) {l M L l' : List (K × Int)} (hn : (M.map Prod.fst).Nodup) (ht : ∀ s, tot M s = tot l s) (hL : L.Perm (M.filter fun r => decide (r.2 ≠ 0))) (hp : l'.Perm L) (hs : l'.Pairwise (fun p q => lt q.1 p.1 = false)) : l' = sumL lt l := by
  have hp' := hp.trans hL
  have hnod : (l'.map Prod.fst).Nodup := (hp'.map Prod.fst).nodup_iff.2 (hn.sublist ((List.filter_sublist (l := M)).map _))
  refine sumL_uniq O ?_ ?_ fun s => ?_
  · have h1 : l'.Pairwise fun p q => p.1 ≠ q.1 := List.pairwise_map.1 hnod
    refine (List.Pairwise.and hs h1).imp fun {a b} ⟨h2, h3⟩ => ?_
    cases e : lt a.1 b.1
    · exact absurd (O.tri _ _ e h2) h3
    · rfl
  · intro r hr
    have := (List.mem_filter.1 (hp'.mem_iff.1 hr)).2
    simpa using this
  · rw [tot_perm hp', filter_nz_tot, ht]
theorem collect_yes {M done left left' L : List (K × Int)} {p : K × Int} (h : M.Perm (done ++ left)) (hp : left.Perm (p :: left')) (hL : L.Perm (done.filter fun r => decide (r.2 ≠ 0))) (h0 : p.2 ≠ 0) :
    M.Perm ((done ++ [p]) ++ left') ∧ (L ++ [p]).Perm ((done ++ [p]).filter fun r => decide (r.2 ≠ 0)) := by
  constructor
  · rw [List.append_assoc]
    exact h.trans (hp.append_left done)
  · rw [List.filter_append]
    have : [p].filter (fun r => decide (r.2 ≠ 0)) = [p] := by simp [h0]
    rw [this]
    exact hL.append_right _
theorem collect_no {M done left left' L : List (K × Int)} {p : K × Int} (h : M.Perm (done ++ left)) (hp : left.Perm (p :: left')) (hL : L.Perm (done.filter fun r => decide (r.2 ≠ 0))) (h0 : p.2 = 0) :
    M.Perm ((done ++ [p]) ++ left') ∧ L.Perm ((done ++ [p]).filter fun r => decide (r.2 ≠ 0)) := by
  constructor
  · rw [List.append_assoc]
    exact h.trans (hp.append_left done)
  · rw [List.filter_append]
    have : [p].filter (fun r => decide (r.2 ≠ 0)) = [] := by simp [h0]
    rw [this, List.append_nil]
    exact hL
end
end Go.Proofs.Ytlddhfimiignaaa
