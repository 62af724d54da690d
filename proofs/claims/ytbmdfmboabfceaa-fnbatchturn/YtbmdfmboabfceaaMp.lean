/- Maps under keys that are structs, with numbers as values: what stands in one, looked up, added to. -/
import Derived.Test.YtbmdfmboabfceaaBa2
import Derived.DeepKeys5
import Derived.WideKeyEntry
namespace Go.Proofs.Ytbmdfmboabfceaa
open Go.RowKit

section
variable {κ : Type} [DecidableEq κ]
theorem tot_nodup {M : List (κ × Int)} (hn : (M.map Prod.fst).Nodup) {r : κ × Int} (hr : r ∈ M) : tot M r.1 = r.2 := by
  induction M with
  | nil => simp at hr
  | cons x M ih =>
    simp only [List.map_cons, List.nodup_cons] at hn
    simp only [tot]
    rcases List.mem_cons.1 hr with rfl | hr
    · rw [if_pos rfl, tot_of_not (fun q hq e => hn.1 (List.mem_map.2 ⟨q, hq, e⟩))]; omega
    · rw [if_neg (fun e => hn.1 (List.mem_map.2 ⟨r, hr, e.symm⟩)), ih hn.2 hr]; omega
theorem tot_set {M : List (κ × Int)} {j : Nat} {r : κ × Int} (hj : M[j]? = some r) (n : Int) (s : κ) : tot (M.set j (r.1, n)) s = tot M s + (if r.1 = s then n - r.2 else 0) := by
  induction M generalizing j with
  | nil => simp at hj
  | cons x M ih =>
    cases j with
    | zero =>
      simp at hj; subst hj
      simp only [List.set_cons_zero, tot]; split <;> omega
    | succ j =>
      simp only [List.set_cons_succ, tot]
      rw [ih (by simpa using hj)]; omega
end
/-- Keys of a type k that are told by values of κ. -/
structure KeyEnc {κ : Type} (k : TypeId) (ek : κ → Value) (ok : κ → Prop) : Prop where
  law : WideMaps.KeyLaw Try.prog k
  key : ∀ s, ok s → ∃ l, keyOf Try.prog k (ek s) = some l
  inj : ∀ s s', ek s = ek s' → s = s'
/-- Block b is a map in which just M stands, each key once. -/
def MapIs {κ : Type} (ek : κ → Value) (ok : κ → Prop) (w : World) (b : Nat) (M : List (κ × Int)) : Prop :=
  ∃ es clock, w.heap[b]? = some (.map es clock) ∧ MapKept.Stamped es clock ∧ es.toList.map (fun x => (x.key, x.val)) = M.map (fun p => (ek p.1, Value.int .i64 p.2)) ∧ ∀ p ∈ M, ok p.1
section
variable {κ : Type} {ek : κ → Value} {ok : κ → Prop} {k e t : TypeId} {w : World} {b : Nat} {M : List (κ × Int)}
theorem MapIs.lt (h : MapIs ek ok w b M) : b < w.heap.size := by
  obtain ⟨es, clock, hb, _⟩ := h
  exact lt_of_block hb
theorem MapIs.move {w1 : World} (h : MapIs ek ok w b M) (hb : w1.heap[b]? = w.heap[b]?) : MapIs ek ok w1 b M := by
  obtain ⟨es, clock, h1, r⟩ := h
  exact ⟨es, clock, by rw [hb]; exact h1, r⟩
theorem MapIs.keep {w1 : World} (h : MapIs ek ok w b M) (hb : Below w.heap.size w w1) : MapIs ek ok w1 b M := h.move (hb.block b h.lt)
theorem MapIs.new (w : World) (hB : b = w.heap.size) : MapIs ek ok (w.alloc (.map #[] 0)) b [] := by
  subst hB
  exact ⟨#[], 0, heap_alloc_new w _, MapKept.stamped_empty 0, by simp, by simp⟩
theorem mapIs_at {es : Array MapEntry} (hm : es.toList.map (fun x => (x.key, x.val)) = M.map (fun p => (ek p.1, Value.int .i64 p.2))) {j : Nat} {x : MapEntry} (hx : es.toList[j]? = some x) : ∃ p, M[j]? = some p ∧ x.key = ek p.1 ∧ x.val = .int .i64 p.2 := by
  have h := congrArg (fun l => l[j]?) hm
  simp only [List.getElem?_map, hx, Option.map_some] at h
  cases hp : M[j]? with
  | none => rw [hp] at h; cases h
  | some p =>
    rw [hp] at h
    simp only [Option.map_some, Option.some.injEq, Prod.mk.injEq] at h
    exact ⟨p, rfl, h.1, h.2⟩
theorem mapIs_keys (K : KeyEnc k ek ok) {es : Array MapEntry} (hm : es.toList.map (fun x => (x.key, x.val)) = M.map (fun p => (ek p.1, Value.int .i64 p.2))) (ho : ∀ p ∈ M, ok p.1) : ∀ x ∈ es.toList, ∃ l, keyOf Try.prog k x.key = some l := by
  intro x hx
  obtain ⟨j, hj⟩ := List.mem_iff_getElem?.1 hx
  obtain ⟨p, hp, h1, _⟩ := mapIs_at hm hj
  rw [h1]
  exact K.key _ (ho p (List.mem_of_getElem? hp))
theorem mapIs_none {es : Array MapEntry} (hm : es.toList.map (fun x => (x.key, x.val)) = M.map (fun p => (ek p.1, Value.int .i64 p.2))) {s : κ} (h : ∀ x ∈ es.toList, x.key ≠ ek s) : ∀ r ∈ M, r.1 ≠ s := by
  intro r hr e
  obtain ⟨j, hj⟩ := List.mem_iff_getElem?.1 hr
  have h' := congrArg (fun l => l[j]?) hm
  simp only [List.getElem?_map, hj, Option.map_some] at h'
  cases hx : es.toList[j]? with
  | none => rw [hx] at h'; cases h'
  | some x =>
    rw [hx] at h'
    simp only [Option.map_some, Option.some.injEq, Prod.mk.injEq] at h'
    exact h x (List.mem_of_getElem? hx) (by rw [h'.1, e])
theorem mapIs_nodup {es : Array MapEntry} {clock : Nat} (hs : MapKept.Stamped es clock) (hm : es.toList.map (fun x => (x.key, x.val)) = M.map (fun p => (ek p.1, Value.int .i64 p.2))) : (M.map Prod.fst).Nodup := by
  have h1 : es.toList.map (·.key) = M.map (fun p => ek p.1) := by
    have := congrArg (List.map Prod.fst) hm
    simpa [List.map_map, Function.comp_def] using this
  have h2 := hs.2.2
  rw [h1] at h2
  have : (M.map fun p => ek p.1) = (M.map Prod.fst).map ek := by simp [List.map_map, Function.comp_def]
  rw [this] at h2
  exact (List.pairwise_map.1 h2).imp fun h e => h (by rw [e])
theorem MapIs.nodup (h : MapIs ek ok w b M) : (M.map Prod.fst).Nodup := by
  obtain ⟨es, clock, _, hs, hm, _⟩ := h
  exact mapIs_nodup hs hm
/-- 'm[s]'. -/
theorem MapIs.look [DecidableEq κ] (h : MapIs ek ok w b M) (K : KeyEnc k ek ok) (ht : Try.prog.underlying t = some (.map k e)) (hz : ∀ w, (zeroValue e).run Try.prog w = .ok (.int .i64 0) w) {s : κ} (hok : ok s) :
    (Instr.lookup t (.map (some b)) (ek s) false).run Try.prog w = .ok (.int .i64 (tot M s)) w := by
  obtain ⟨es, clock, hb, hs, hm, ho⟩ := h
  obtain ⟨l, hl⟩ := K.key s hok
  rcases K.law.find w hl es.toList (mapIs_keys K hm ho) with ⟨h1, h2⟩ | ⟨j, x, h1, h2, h3⟩
  · rw [tot_of_not (mapIs_none hm h2)]
    simp [Instr.lookup, run_underlying ht, MapKept.run_getObj_map hb, K.law.check w _ hl, h1, hz, Result.andThen]
  · obtain ⟨p, hp, e1, e2⟩ := mapIs_at hm h2
    have : p.1 = s := K.inj _ _ (by rw [← e1, h3])
    subst this
    rw [tot_nodup (mapIs_nodup hs hm) (List.mem_of_getElem? hp), ← e2]
    simp [Instr.lookup, run_underlying ht, MapKept.run_getObj_map hb, K.law.check w _ hl, h1, Result.andThen]
open Go.ChangeMaps (setBlock) in
/-- 'm[s] = n' by the entry and its stamp; what is looked up between the two is as it was. -/
theorem MapIs.enter [DecidableEq κ] (h : MapIs ek ok w b M) (K : KeyEnc k ek ok) (ht : Try.prog.underlying t = some (.map k e)) (hz : ∀ w, (zeroValue e).run Try.prog w = .ok (.int .i64 0) w) {s : κ} (hok : ok s) (n : Int) :
    ∃ (st : Nat) (o1 o2 : Obj) (M' : List (κ × Int)), (Instr.mapEntry t (.map (some b)) (ek s)).run Try.prog w = .ok (.tuple #[.int .i64 (tot M s), goInt st]) (setBlock w b o1) ∧
      (Instr.lookup t (.map (some b)) (ek s) false).run Try.prog (setBlock w b o1) = .ok (.int .i64 (tot M s)) (setBlock w b o1) ∧
      (Instr.entryStore t (.map (some b)) (goInt st) (.int .i64 n)).run Try.prog (setBlock w b o1) = .ok () (setBlock w b o2) ∧
      MapIs ek ok (setBlock w b o2) b M' ∧ (∀ s', tot M' s' = if s = s' then n else tot M s') ∧ M'.length ≤ M.length + 1 := by
  have hM := h
  obtain ⟨es, clock, hb, hs, hm, ho⟩ := h
  obtain ⟨l, hl⟩ := K.key s hok
  have hlt : b < w.heap.size := lt_of_block hb
  have same : ∀ o, (setBlock w b o).heap[b]? = some o := fun o => by simp [setBlock, hlt]
  have twice : ∀ o o', setBlock (setBlock w b o) b o' = setBlock w b o' := fun o o' => by simp [setBlock]
  have hlen : es.size = M.length := by have := congrArg List.length hm; simpa using this
  rcases K.law.find w hl es.toList (mapIs_keys K hm ho) with ⟨h1, h2⟩ | ⟨j, x, h1, h2, h3⟩
  · have h0 := mapIs_none hm h2
    have t0 : tot M s = 0 := tot_of_not h0
    have m1 : MapIs ek ok (setBlock w b (.map (es.push ⟨ek s, .int .i64 0, clock⟩) (clock + 1))) b (M ++ [(s, 0)]) :=
      ⟨_, _, same _, MapKept.stamped_push hs h2, by simp [hm], fun p hp => by
        rcases List.mem_append.1 hp with hp | hp
        · exact ho p hp
        · simp at hp; subst hp; exact hok⟩
    refine ⟨clock, .map (es.push ⟨ek s, .int .i64 0, clock⟩) (clock + 1), .map (es.push ⟨ek s, .int .i64 n, clock⟩) (clock + 1), M ++ [(s, n)], ?_, ?_, ?_, ?_, ?_, by simp⟩
    · rw [t0]
      simp [Instr.mapEntry, run_underlying ht, MapKept.run_getObj_map hb, K.law.check w false hl, h1, hz, MapKept.run_setObj_map _ hb, Result.andThen, setBlock]
    · have := m1.look K ht hz hok
      rw [tot_snoc] at this
      simpa using this
    · have hidx : (es.push ⟨ek s, .int .i64 0, clock⟩).findIdx? (fun e => ((e.born : Nat) : Int) == ((clock : Nat) : Int)) = some es.size := by
        rw [Go.WideElems.findIdx_arr]
        refine Go.WideElems.findIdx_born (l := (es.push ⟨ek s, .int .i64 0, clock⟩).toList) (j := es.size) (e0 := ⟨ek s, .int .i64 0, clock⟩) ?_ (by simp)
        simp only [Array.toList_push, List.map_append, List.map_cons, List.map_nil]
        refine List.nodup_append.2 ⟨hs.2.1, by simp, fun a ha c hc e1 => ?_⟩
        simp only [List.mem_singleton] at hc
        obtain ⟨x, hx, rfl⟩ := List.mem_map.1 ha
        have := hs.1 x hx
        omega
      have hmod : (es.push ⟨ek s, .int .i64 0, clock⟩).modify es.size (fun e => { e with val := .int .i64 n }) = es.push ⟨ek s, .int .i64 n, clock⟩ := by
        apply Array.ext'
        rw [Array.toList_modify, Array.toList_push, Array.toList_push, ← Array.length_toList, Go.WideElems.modify_last]
      have hw1 := same (.map (es.push ⟨ek s, .int .i64 0, clock⟩) (clock + 1))
      have htw := twice (.map (es.push ⟨ek s, .int .i64 0, clock⟩) (clock + 1)) (.map (es.push ⟨ek s, .int .i64 n, clock⟩) (clock + 1))
      generalize setBlock w b (.map (es.push ⟨ek s, .int .i64 0, clock⟩) (clock + 1)) = w1 at hw1 htw ⊢
      rw [← htw]
      simp [Instr.entryStore, MapKept.run_getObj_map hw1, asInt, asIntOf, goInt, hidx, hmod, MapKept.run_setObj_map _ hw1, Result.andThen, setBlock]
    · exact ⟨_, _, same _, MapKept.stamped_push hs h2, by simp [hm], fun p hp => by
        rcases List.mem_append.1 hp with hp | hp
        · exact ho p hp
        · simp at hp; subst hp; exact hok⟩
    · intro s'
      rw [tot_snoc]
      by_cases e1 : s = s'
      · subst e1; simp [t0]
      · simp [e1]
  · obtain ⟨p, hp, e1, e2⟩ := mapIs_at hm h2
    have : p.1 = s := K.inj _ _ (by rw [← e1, h3])
    subst this
    have hj : es[j]? = some x := by simpa using h2
    have tp := tot_nodup (mapIs_nodup hs hm) (List.mem_of_getElem? hp)
    have hjl : j < es.toList.length := (List.getElem?_eq_some_iff.1 h2).1
    have hsame : es.modify j (fun e => { e with key := ek p.1 }) = es := by
      apply Array.ext'
      rw [Array.toList_modify, Go.ChangeMaps.modify_eq_set _ _ _ _ h2]
      have : ({ x with key := ek p.1 } : MapEntry) = x := by rw [← h3]
      rw [this]
      exact Go.WideElems.set_self _ _ _ h2
    have hself : setBlock w b (.map es clock) = w := by
      have hx : w.heap.setIfInBounds b (.map es clock) = w.heap := by
        apply Array.ext_getElem?
        intro i
        rw [Array.getElem?_setIfInBounds]
        by_cases hi : b = i
        · subst hi; rw [if_pos rfl, if_pos hlt, hb]
        · rw [if_neg hi]
      simp only [setBlock, hx]
    have hlist : (es.modify j (fun e' => { e' with val := .int .i64 n })).toList = es.toList.set j { x with val := .int .i64 n } := by
      rw [Array.toList_modify, Go.ChangeMaps.modify_eq_set _ _ _ _ h2]
    refine ⟨x.born, .map es clock, .map (es.modify j (fun e' => { e' with val := .int .i64 n })) clock, M.set j (p.1, n), ?_, ?_, ?_, ?_, ?_, by simp⟩
    · rw [tp, ← e2]
      simp [Instr.mapEntry, run_underlying ht, MapKept.run_getObj_map hb, K.law.check w false hl, h1, hj, h3, K.law.stays w hl, hsame, MapKept.run_setObj_map _ hb, Result.andThen, setBlock]
    · rw [hself]
      exact hM.look K ht hz hok
    · rw [hself]
      have hidx : es.findIdx? (fun e => ((e.born : Nat) : Int) == ((x.born : Nat) : Int)) = some j := by
        rw [Go.WideElems.findIdx_arr]
        exact Go.WideElems.findIdx_born hs.2.1 h2
      simp [Instr.entryStore, MapKept.run_getObj_map hb, asInt, asIntOf, goInt, hidx, MapKept.run_setObj_map _ hb, Result.andThen, setBlock]
    · refine ⟨_, _, same _, MapKept.stamped_modify hs _ _ (fun _ _ => rfl) (fun _ _ _ => rfl), ?_, fun q hq => ?_⟩
      · rw [hlist, List.map_set, List.map_set, hm, h3]
      · rcases List.mem_or_eq_of_mem_set hq with hq | rfl
        · exact ho q hq
        · exact hok
    · intro s'
      rw [tot_set hp]
      by_cases e3 : p.1 = s'
      · subst e3; rw [if_pos rfl, if_pos rfl, tp]; omega
      · rw [if_neg e3, if_neg e3]; omega
end
end Go.Proofs.Ytbmdfmboabfceaa
