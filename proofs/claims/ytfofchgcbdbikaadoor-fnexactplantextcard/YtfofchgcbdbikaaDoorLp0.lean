/- The text of a plan, and how it is read: facts. -/
import Derived.Test.YtfofchgcbdbikaaDoorGpa
namespace Go.Proofs.YtfofchgcbdbikaaDoor

abbrev By := List UInt8
/-! ### Words of a text -/
def splitB (c : UInt8) : By → List By
  | [] => [[]]
  | x :: xs => if x = c then [] :: splitB c xs else match splitB c xs with
    | w :: ws => (x :: w) :: ws
    | [] => [[x]]
def joinB : List By → By
  | [] => []
  | [w] => w
  | w :: v :: ws => w ++ 32 :: joinB (v :: ws)
theorem split_ne (c : UInt8) (s : By) : splitB c s ≠ [] := by
  cases s with
  | nil => simp [splitB]
  | cons x xs =>
    simp only [splitB]
    split
    · simp
    · split <;> simp
theorem join_split (s : By) : joinB (splitB 32 s) = s := by
  induction s with
  | nil => rfl
  | cons x xs ih =>
    simp only [splitB]
    split
    · rename_i h
      subst h
      rcases e : splitB 32 xs with _ | ⟨w, ws⟩
      · exact absurd e (split_ne 32 xs)
      · rw [e] at ih; simp [joinB, ih]
    · rcases e : splitB 32 xs with _ | ⟨w, ws⟩
      · exact absurd e (split_ne 32 xs)
      · rw [e] at ih
        cases ws with
        | nil => simpa [joinB] using ih
        | cons v ws => simpa [joinB] using ih
theorem split_word {w : By} (h : (32 : UInt8) ∉ w) : splitB 32 w = [w] := by
  induction w with
  | nil => rfl
  | cons x xs ih =>
    simp only [List.mem_cons, not_or] at h
    have hx : x ≠ 32 := fun e => h.1 e.symm
    simp [splitB, hx, ih h.2]
theorem split_app {w : By} (h : (32 : UInt8) ∉ w) (s : By) : splitB 32 (w ++ 32 :: s) = w :: splitB 32 s := by
  induction w with
  | nil => simp [splitB]
  | cons x xs ih =>
    simp only [List.mem_cons, not_or] at h
    have hx : x ≠ 32 := fun e => h.1 e.symm
    simp [splitB, hx, ih h.2]
theorem split_join : ∀ ws : List By, ws ≠ [] → (∀ w ∈ ws, (32 : UInt8) ∉ w) → splitB 32 (joinB ws) = ws
  | [], h, _ => absurd rfl h
  | [w], _, hw => split_word (hw w (by simp))
  | w :: v :: ws, _, hw => by
    show splitB 32 (w ++ 32 :: joinB (v :: ws)) = _
    rw [split_app (hw w (by simp)), split_join (v :: ws) (by simp) (fun x hx => hw x (by simp only [List.mem_cons] at hx ⊢; exact .inr hx))]
theorem join_app : ∀ a b : List By, a ≠ [] → b ≠ [] → joinB (a ++ b) = joinB a ++ 32 :: joinB b
  | [], _, h, _ => absurd rfl h
  | [w], b, _, hb => by
    cases b with
    | nil => exact absurd rfl hb
    | cons v b => rfl
  | w :: v :: ws, b, _, hb => by
    have := join_app (v :: ws) b (by simp) hb
    show w ++ 32 :: joinB ((v :: ws) ++ b) = _
    rw [this]; simp [joinB]
/-! ### The text of a plan -/
def nameB (k : Int) : By := if k = 1 then [105, 110] else if k = 2 then [101, 97, 99, 104] else if k = 3 then [98, 111, 116, 104] else if k = 4 then [108, 101, 115, 115] else if k = 5 then [106, 111, 105, 110] else if k = 6 then [115, 117, 109] else []
def headB (k n : Int) : By := nameB k ++ (if 0 < numHi k then [UInt8.ofNat (48 + n.toNat)] else [])
def textT : PT → By
  | .n0 k n => headB k n
  | .n1 k n a => headB k n ++ 32 :: textT a
  | .n2 k n a b => headB k n ++ 32 :: (textT a ++ 32 :: textT b)
def wordsT : PT → List By
  | .n0 k n => [headB k n]
  | .n1 k n a => headB k n :: wordsT a
  | .n2 k n a b => headB k n :: (wordsT a ++ wordsT b)
theorem words_ne (t : PT) : wordsT t ≠ [] := by cases t <;> simp [wordsT]
theorem join_cons (w : By) {l : List By} (h : l ≠ []) : joinB (w :: l) = w ++ 32 :: joinB l := by
  cases l with
  | nil => exact absurd rfl h
  | cons v l => rfl
theorem text_words : ∀ t : PT, joinB (wordsT t) = textT t
  | .n0 k n => rfl
  | .n1 k n a => by rw [wordsT, join_cons _ (words_ne a), text_words a]; rfl
  | .n2 k n a b => by
    rw [wordsT, join_cons _ (by simp [words_ne]), join_app _ _ (words_ne a) (words_ne b), text_words a, text_words b]; rfl
/-- All heads of plans. -/
def cand : List (Int × Int) := [(1, 0), (1, 1), (2, 1), (2, 2), (2, 3), (2, 4), (2, 5), (2, 6), (2, 7), (3, 0), (4, 0), (5, 0), (6, 1), (6, 2), (6, 3)]
theorem cand_of {k n : Int} (h1 : 1 ≤ k) (h6 : k ≤ 6) (hl : numLo k ≤ n) (hh : n ≤ numHi k) : (k, n) ∈ cand := by
  obtain rfl | rfl | rfl | rfl | rfl | rfl : k = 1 ∨ k = 2 ∨ k = 3 ∨ k = 4 ∨ k = 5 ∨ k = 6 := by omega
  · simp [numLo, numHi] at hl hh
    obtain rfl | rfl : n = 0 ∨ n = 1 := by omega
    all_goals simp [cand]
  · simp [numLo, numHi] at hl hh
    obtain rfl | rfl | rfl | rfl | rfl | rfl | rfl : n = 1 ∨ n = 2 ∨ n = 3 ∨ n = 4 ∨ n = 5 ∨ n = 6 ∨ n = 7 := by omega
    all_goals simp [cand]
  · simp [numLo, numHi] at hl hh
    obtain rfl : n = 0 := by omega
    simp [cand]
  · simp [numLo, numHi] at hl hh
    obtain rfl : n = 0 := by omega
    simp [cand]
  · simp [numLo, numHi] at hl hh
    obtain rfl : n = 0 := by omega
    simp [cand]
  · simp [numLo, numHi] at hl hh
    obtain rfl | rfl | rfl : n = 1 ∨ n = 2 ∨ n = 3 := by omega
    all_goals simp [cand]
theorem cand_in : ∀ p ∈ cand, 1 ≤ p.1 ∧ p.1 ≤ 6 ∧ numLo p.1 ≤ p.2 ∧ p.2 ≤ numHi p.1 := by decide
theorem cand_no : ∀ p ∈ cand, (32 : UInt8) ∉ headB p.1 p.2 := by decide
theorem cand_short : ∀ p ∈ cand, (headB p.1 p.2).length ≤ 5 := by decide
def lookW (w : By) : Option (Int × Int) := cand.find? fun p => headB p.1 p.2 == w
theorem look_some {w : By} {p : Int × Int} (h : lookW w = some p) : headB p.1 p.2 = w ∧ p ∈ cand := by
  unfold lookW at h
  exact ⟨by simpa using List.find?_some h, List.mem_of_find?_eq_some h⟩
theorem look_head : ∀ p ∈ cand, lookW (headB p.1 p.2) = some p := by decide
theorem here_cand {t : PT} (h : hereB t = true) : (t.k, t.n) ∈ cand ∧ (t.len : Int) = kidN t.k := by
  simp only [hereB, inB, Bool.and_eq_true, decide_eq_true_eq] at h
  exact ⟨cand_of h.1.1.1 h.1.1.2 h.2.1 h.2.2, h.1.2⟩
theorem cand_here {t : PT} (h : (t.k, t.n) ∈ cand) (hl : (t.len : Int) = kidN t.k) : hereB t = true := by
  have := cand_in _ h
  simp only [hereB, inB, Bool.and_eq_true, decide_eq_true_eq]
  exact ⟨⟨⟨this.1, this.2.1⟩, hl⟩, this.2.2⟩
theorem cand_kid : ∀ p ∈ cand, kidN p.1 = 0 ∨ kidN p.1 = 1 ∨ kidN p.1 = 2 := by decide
/-! ### Reading, as the program does -/
def readW : Nat → List By → Option (PT × List By)
  | 0, _ => none
  | _ + 1, [] => none
  | d + 1, w :: ws => (lookW w).bind fun p =>
    if kidN p.1 = 0 then some (.n0 p.1 p.2, ws)
    else (readW d ws).bind fun x => if kidN p.1 = 1 then some (.n1 p.1 p.2 x.1, x.2) else (readW d x.2).bind fun y => some (.n2 p.1 p.2 x.1 y.1, y.2)
theorem read_words : ∀ (d : Nat) (ws : List By) (t : PT) (r : List By), readW d ws = some (t, r) → ws = wordsT t ++ r ∧ pokB t d = true
  | 0, _, _, _, h => by cases h
  | _ + 1, [], _, _, h => by cases h
  | d + 1, w :: ws, t, r, h => by
    obtain ⟨p, hp, h⟩ := Option.bind_eq_some_iff.1 h
    obtain ⟨hw, hc⟩ := look_some hp
    rcases cand_kid p hc with h0 | h0 | h0
    · rw [if_pos h0] at h
      cases h
      refine ⟨by simp [wordsT, hw], ?_⟩
      exact cand_here (t := .n0 p.1 p.2) hc (by simp [PT.len, PT.k, h0])
    · rw [if_neg (by omega)] at h
      obtain ⟨x, hx, h⟩ := Option.bind_eq_some_iff.1 h
      rw [if_pos h0] at h
      cases h
      obtain ⟨e1, e2⟩ := read_words d ws x.1 x.2 hx
      refine ⟨by simp [wordsT, hw, e1], ?_⟩
      have := cand_here (t := .n1 p.1 p.2 x.1) hc (by simp [PT.len, PT.k, h0])
      simp [pokB, this, e2]
    · rw [if_neg (by omega)] at h
      obtain ⟨x, hx, h⟩ := Option.bind_eq_some_iff.1 h
      rw [if_neg (by omega)] at h
      obtain ⟨y, hy, h⟩ := Option.bind_eq_some_iff.1 h
      cases h
      obtain ⟨e1, e2⟩ := read_words d ws x.1 x.2 hx
      obtain ⟨e3, e4⟩ := read_words d x.2 y.1 y.2 hy
      refine ⟨by simp [wordsT, hw, e1, e3], ?_⟩
      have := cand_here (t := .n2 p.1 p.2 x.1 y.1) hc (by simp [PT.len, PT.k, h0])
      simp [pokB, this, e2, e4]
theorem words_read : ∀ (d : Nat) (t : PT) (r : List By), pokB t d = true → readW d (wordsT t ++ r) = some (t, r)
  | 0, t, _, h => by rw [pok_zero] at h; cases h
  | d + 1, .n0 k n, r, h => by
    obtain ⟨hc, hl⟩ := here_cand (show hereB (.n0 k n) = true from h)
    simp only [PT.len, PT.k, PT.n] at hc hl
    have h0 : kidN k = 0 := hl.symm
    simp [wordsT, readW, look_head _ hc, h0]
  | d + 1, .n1 k n a, r, h => by
    simp only [pokB, Bool.and_eq_true] at h
    obtain ⟨hc, hl⟩ := here_cand h.1
    simp only [PT.len, PT.k, PT.n] at hc hl
    have h0 : kidN k = 1 := hl.symm
    simp [wordsT, readW, look_head _ hc, h0, words_read d a r h.2]
  | d + 1, .n2 k n a b, r, h => by
    simp only [pokB, Bool.and_eq_true] at h
    obtain ⟨hc, hl⟩ := here_cand h.1.1
    simp only [PT.len, PT.k, PT.n] at hc hl
    have h0 : kidN k = 2 := hl.symm
    have e1 := words_read d a (wordsT b ++ r) h.1.2
    have e2 := words_read d b r h.2
    simp [wordsT, readW, look_head _ hc, h0, List.append_assoc, e1, e2]
theorem words_no : ∀ (d : Nat) (t : PT), pokB t d = true → ∀ w ∈ wordsT t, (32 : UInt8) ∉ w
  | 0, t, h => by rw [pok_zero] at h; cases h
  | d + 1, .n0 k n, h => by
    obtain ⟨hc, _⟩ := here_cand (show hereB (.n0 k n) = true from h)
    intro w hw
    simp only [wordsT, List.mem_singleton] at hw
    subst hw; exact cand_no _ hc
  | d + 1, .n1 k n a, h => by
    simp only [pokB, Bool.and_eq_true] at h
    obtain ⟨hc, _⟩ := here_cand h.1
    intro w hw
    simp only [wordsT, List.mem_cons] at hw
    rcases hw with rfl | hw
    · exact cand_no _ hc
    · exact words_no d a h.2 w hw
  | d + 1, .n2 k n a b, h => by
    simp only [pokB, Bool.and_eq_true] at h
    obtain ⟨hc, _⟩ := here_cand h.1.1
    intro w hw
    simp only [wordsT, List.mem_cons, List.mem_append] at hw
    rcases hw with rfl | hw | hw
    · exact cand_no _ hc
    · exact words_no d a h.1.2 w hw
    · exact words_no d b h.2 w hw
theorem split_text {d : Nat} {t : PT} (h : pokB t d = true) : splitB 32 (textT t) = wordsT t := by
  rw [← text_words]; exact split_join _ (words_ne t) (words_no d t h)
theorem text_len : ∀ (d : Nat) (t : PT), pokB t d = true → (textT t).length + 7 ≤ 7 * 2 ^ d
  | 0, t, h => by rw [pok_zero] at h; cases h
  | d + 1, .n0 k n, h => by
    obtain ⟨hc, _⟩ := here_cand (show hereB (.n0 k n) = true from h)
    have := cand_short _ hc
    have h2 : 1 ≤ 2 ^ d := Nat.one_le_two_pow
    simp only [textT, PT.k, PT.n, Nat.pow_succ] at *
    omega
  | d + 1, .n1 k n a, h => by
    simp only [pokB, Bool.and_eq_true] at h
    obtain ⟨hc, _⟩ := here_cand h.1
    have h1 := cand_short _ hc
    have h2 := text_len d a h.2
    have h3 : 1 ≤ 2 ^ d := Nat.one_le_two_pow
    simp only [textT, PT.k, PT.n, Nat.pow_succ, List.length_append, List.length_cons] at *
    omega
  | d + 1, .n2 k n a b, h => by
    simp only [pokB, Bool.and_eq_true] at h
    obtain ⟨hc, _⟩ := here_cand h.1.1
    have h1 := cand_short _ hc
    have h2 := text_len d a h.1.2
    have h3 := text_len d b h.2
    have h4 : 1 ≤ 2 ^ d := Nat.one_le_two_pow
    simp only [textT, PT.k, PT.n, Nat.pow_succ, List.length_append, List.length_cons] at *
    omega
def linesI (s : By) : Option PT := if 2000 < s.length then none else (readW 4 (splitB 32 s)).bind fun x => if x.2 = [] then some x.1 else none
theorem linesI_some {s : By} {t : PT} (h : linesI s = some t) : pokB t 4 = true ∧ textT t = s := by
  unfold linesI at h
  split at h
  · cases h
  · obtain ⟨x, hx, h⟩ := Option.bind_eq_some_iff.1 h
    split at h
    · rename_i h0
      cases h
      obtain ⟨e1, e2⟩ := read_words 4 _ x.1 x.2 hx
      refine ⟨e2, ?_⟩
      rw [h0, List.append_nil] at e1
      rw [← text_words, ← e1, join_split]
    · cases h
theorem linesI_text {t : PT} (h : pokB t 4 = true) : linesI (textT t) = some t := by
  have h1 := text_len 4 t h
  have h2 := words_read 4 t [] h
  rw [List.append_nil] at h2
  unfold linesI
  rw [if_neg (by omega), split_text h, h2]
  rfl
/-! ### Reading, as the model does -/
def digB (x : UInt8) : Bool := decide (48 ≤ x.toNat) && decide (x.toNat ≤ 57)
def decF (acc : Int) : By → Option Int
  | [] => some acc
  | x :: xs => if digB x then decF (acc * 10 + ((x.toNat : Int) - 48)) xs else none
/-- The number of a word, as far as it is one. -/
def decV (s : By) : Int :=
  let neg := decide (1 < s.length) && (s.head? == some 45)
  let from_ := if neg then 1 else 0
  if s.length < 1 ∨ from_ + 2 < s.length then 0
  else match decF 0 (s.drop from_) with
    | none => 0
    | some n => if neg then -n else n
def stepK (w : By) (p : Int × Int) (k : Int) : Int × Int :=
  if (nameB k).isPrefixOf w then (k, if (nameB k).length < w.length then decV (w.drop (nameB k).length) else p.2) else p
def kindW (w : By) : Int × Int := [1, 2, 3, 4, 5, 6].foldl (stepK w) (0, 0)
theorem kind_head : ∀ p ∈ cand, kindW (headB p.1 p.2) = p := by decide
def l41T : Nat → List By → PT × List By
  | 0, ws => (.n0 0 0, ws)
  | _ + 1, [] => (.n0 0 0, [])
  | d + 1, w :: ws =>
    if kidN (kindW w).1 = 1 then (.n1 (kindW w).1 (kindW w).2 (l41T d ws).1, (l41T d ws).2)
    else if kidN (kindW w).1 = 2 then (.n2 (kindW w).1 (kindW w).2 (l41T d ws).1 (l41T d (l41T d ws).2).1, (l41T d (l41T d ws).2).2)
    else (.n0 (kindW w).1 (kindW w).2, ws)
theorem words_l41 : ∀ (d : Nat) (t : PT) (r : List By), pokB t d = true → l41T d (wordsT t ++ r) = (t, r)
  | 0, t, _, h => by rw [pok_zero] at h; cases h
  | d + 1, .n0 k n, r, h => by
    obtain ⟨hc, hl⟩ := here_cand (show hereB (.n0 k n) = true from h)
    simp only [PT.len, PT.k, PT.n] at hc hl
    have h0 : kidN k = 0 := hl.symm
    simp [wordsT, l41T, kind_head _ hc, h0]
  | d + 1, .n1 k n a, r, h => by
    simp only [pokB, Bool.and_eq_true] at h
    obtain ⟨hc, hl⟩ := here_cand h.1
    simp only [PT.len, PT.k, PT.n] at hc hl
    have h0 : kidN k = 1 := hl.symm
    simp [wordsT, l41T, kind_head _ hc, h0, words_l41 d a r h.2]
  | d + 1, .n2 k n a b, r, h => by
    simp only [pokB, Bool.and_eq_true] at h
    obtain ⟨hc, hl⟩ := here_cand h.1.1
    simp only [PT.len, PT.k, PT.n] at hc hl
    have h0 : kidN k = 2 := hl.symm
    have e1 := words_l41 d a (wordsT b ++ r) h.1.2
    have e2 := words_l41 d b r h.2
    simp [wordsT, l41T, kind_head _ hc, h0, List.append_assoc, e1, e2]
def planText (t : PT) : By := if pokB t 4 then textT t else []
def linesS (s : By) : Option PT := if 2000 < s.length then none else if s = [] ∨ planText (l41T 4 (splitB 32 s)).1 ≠ s then none else some (l41T 4 (splitB 32 s)).1
theorem text_ne (t : PT) (h : pokB t 4 = true) : textT t ≠ [] := by
  intro e
  have h1 := linesI_text h
  rw [e] at h1
  have : linesI [] = none := by decide
  rw [this] at h1
  cases h1
theorem lines_eq (s : By) : linesS s = linesI s := by
  rcases e : linesI s with _ | t
  · unfold linesS
    split
    · rfl
    · split
      · rfl
      · rename_i hl hn
        simp only [not_or, Decidable.not_not] at hn
        obtain ⟨hs, ht⟩ := hn
        unfold planText at ht
        split at ht
        · rename_i hp
          have := linesI_text hp
          rw [ht, e] at this
          cases this
        · exact absurd ht.symm hs
  · obtain ⟨hp, ht⟩ := linesI_some e
    have hlen : s.length ≤ 2000 := by
      unfold linesI at e
      split at e
      · cases e
      · omega
    have hw : l41T 4 (splitB 32 s) = (t, []) := by
      rw [← ht, split_text hp]
      have := words_l41 4 t [] hp
      rwa [List.append_nil] at this
    have hne : s ≠ [] := by rw [← ht]; exact text_ne t hp
    unfold linesS
    rw [if_neg (by omega), hw, if_neg]
    simp [planText, hp, ht, hne]
end Go.Proofs.YtfofchgcbdbikaaDoor
