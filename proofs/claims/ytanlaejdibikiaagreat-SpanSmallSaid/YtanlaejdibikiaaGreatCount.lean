/-
How many days of a set are less than a day; the n-th day; short gaps filled.
-/
import Derived.Test.YtanlaejdibikiaaGreatSweep
namespace Go.Proofs.YtanlaejdibikiaaGreat
namespace Sp

theorem memB_nil (d : Int) : memB [] d = false := by rw [Bool.eq_false_iff, ne_eq, memB_iff]; exact mem_nil d
theorem memB_cons (s : Int × Int) (t : L) (d : Int) : memB (s :: t) d = (decide (s.1 ≤ d ∧ d < s.2) || memB t d) := by
  rw [Bool.eq_iff_iff, memB_iff, mem_cons, Bool.or_eq_true, memB_iff, decide_eq_true_eq]
theorem memB_false {l : L} {d : Int} (h : ¬ Mem l d) : memB l d = false := by rw [Bool.eq_false_iff, ne_eq, memB_iff]; exact h

/-- How many numbers less than n have the property. -/
def cnt (p : Int → Bool) : Nat → Int
  | 0 => 0
  | n + 1 => cnt p n + if p n then 1 else 0

theorem cnt_le (p : Int → Bool) (n : Nat) : 0 ≤ cnt p n ∧ cnt p n ≤ n := by
  induction n with
  | zero => simp [cnt]
  | succ n ih => unfold cnt; split <;> omega
theorem cnt_congr {p q : Int → Bool} {n : Nat} (h : ∀ d : Int, 0 ≤ d → d < n → p d = q d) : cnt p n = cnt q n := by
  induction n with
  | zero => rfl
  | succ n ih => unfold cnt; rw [ih (fun d a b => h d a (by omega)), h n (by omega) (by omega)]
theorem cnt_none {p : Int → Bool} {n : Nat} (h : ∀ d : Int, 0 ≤ d → d < n → p d = false) : cnt p n = 0 := by
  induction n with
  | zero => rfl
  | succ n ih => unfold cnt; rw [ih (fun d a b => h d a (by omega)), h n (by omega) (by omega)]; rfl
theorem cnt_or_and (p q : Int → Bool) (n : Nat) : cnt (fun d => p d || q d) n + cnt (fun d => p d && q d) n = cnt p n + cnt q n := by
  induction n with
  | zero => rfl
  | succ n ih => simp only [cnt]; rcases Bool.eq_false_or_eq_true (p n) with h1 | h1 <;> rcases Bool.eq_false_or_eq_true (q n) with h2 | h2 <;> simp [h1, h2] <;> omega
theorem cnt_minus (p q : Int → Bool) (n : Nat) : cnt (fun d => p d && !q d) n + cnt (fun d => p d && q d) n = cnt p n := by
  induction n with
  | zero => rfl
  | succ n ih => simp only [cnt]; rcases Bool.eq_false_or_eq_true (p n) with h1 | h1 <;> rcases Bool.eq_false_or_eq_true (q n) with h2 | h2 <;> simp [h1, h2] <;> omega
theorem cnt_disj {p q : Int → Bool} {n : Nat} (h : ∀ d : Int, p d = true → q d = false) : cnt (fun d => p d || q d) n = cnt p n + cnt q n := by
  have := cnt_or_and p q n
  rw [cnt_none (p := fun d => p d && q d)] at this
  · omega
  · intro d _ _; cases hp : p d
    · rfl
    · simp [h d hp]
theorem cnt_mono (p : Int → Bool) {m n : Nat} (h : m ≤ n) : cnt p m ≤ cnt p n := by
  induction n with
  | zero => rw [show m = 0 from by omega]; exact Int.le_refl _
  | succ n ih =>
    rcases Nat.lt_or_ge m (n + 1) with h' | h'
    · have := ih (by omega); simp only [cnt]; split <;> omega
    · rw [show m = n + 1 from by omega]; exact Int.le_refl _
/-- The days of one span. -/
theorem cnt_span (a b : Int) (n : Nat) (h0 : 0 ≤ a) (h : a ≤ b) : cnt (fun d => decide (a ≤ d ∧ d < b)) n = min (max a n) b - a := by
  induction n with
  | zero => simp only [cnt]; omega
  | succ n ih =>
    simp only [cnt, ih, decide_eq_true_eq]
    split <;> omega

/-- How many days of l are less than day. -/
def beforeN (l : L) (day : Int) : Int := (l.map fun s => min (max s.1 day) s.2 - s.1).sum
theorem beforeN_nil (d : Int) : beforeN [] d = 0 := rfl
theorem beforeN_cons (s : Int × Int) (t : L) (d : Int) : beforeN (s :: t) d = (min (max s.1 d) s.2 - s.1) + beforeN t d := rfl
theorem beforeN_append (a b : L) (d : Int) : beforeN (a ++ b) d = beforeN a d + beforeN b d := by simp [beforeN]
theorem beforeN_clamp {lo : Int} {l : L} (h : Chain lo l) (h0 : -1 ≤ lo) (d : Int) : beforeN l d = cnt (memB l) (min (max d 0) 65536).toNat := by
  induction l generalizing lo with
  | nil => rw [beforeN_nil, cnt_none]; intro d _ _; exact memB_nil d
  | cons s t ih =>
    obtain ⟨h1, h2, h3, h4⟩ := h
    rw [beforeN_cons, ih h4 (by omega)]
    have e : cnt (memB (s :: t)) (min (max d 0) 65536).toNat = cnt (fun d => decide (s.1 ≤ d ∧ d < s.2) || memB t d) (min (max d 0) 65536).toNat := cnt_congr fun d _ _ => memB_cons s t d
    rw [e, cnt_disj, cnt_span _ _ _ (by omega) (by omega)]
    · omega
    · intro d hd
      refine memB_false fun hm => ?_
      have := h4.lo hm
      simp at hd
      omega
theorem beforeN_bd {l : L} (h : IsSet l) (d : Int) : 0 ≤ beforeN l d ∧ beforeN l d ≤ 65536 := by
  rw [beforeN_clamp h (by omega)]
  have := cnt_le (memB l) (min (max d 0) 65536).toNat
  omega
theorem beforeN_all {l : L} (h : IsSet l) {d : Int} (hd : 65536 ≤ d) : beforeN l d = cnt (memB l) 65536 := by
  rw [beforeN_clamp h (by omega), show (min (max d 0) 65536).toNat = 65536 from by omega]
theorem beforeN_zero {l : L} (h : IsSet l) {d : Int} (hd : d ≤ 0) : beforeN l d = 0 := by
  rw [beforeN_clamp h (by omega), show (min (max d 0) 65536).toNat = 0 from by omega]; rfl
theorem beforeN_take {l : L} (h : IsSet l) (d : Int) (k : Nat) : 0 ≤ beforeN (l.take k) d ∧ beforeN (l.take k) d ≤ 65536 := by
  have hs : IsSet (l.take k) := by
    unfold IsSet at *
    revert h
    generalize (-1 : Int) = lo
    intro h
    induction l generalizing k lo with
    | nil => simpa using h
    | cons s t ih =>
      cases k with
      | zero => trivial
      | succ k => exact ⟨h.1, h.2.1, h.2.2.1, ih k _ h.2.2.2⟩
  exact beforeN_bd hs d

/-- The day of which n days are less. -/
def nthO : L → Int → Option Int
  | [], _ => none
  | s :: t, n => if n < s.2 - s.1 then some (s.1 + n) else nthO t (n - (s.2 - s.1))

theorem size_nonneg {lo : Int} {l : L} (h : Chain lo l) (h0 : -1 ≤ lo) : 0 ≤ beforeN l 65536 := by
  rw [beforeN_clamp h h0]; exact (cnt_le _ _).1

theorem beforeN_low {lo : Int} {l : L} (h : Chain lo l) {d : Int} (hd : d ≤ lo + 1) : beforeN l d = 0 := by
  induction l generalizing lo with
  | nil => rfl
  | cons s t ih =>
    obtain ⟨h1, h2, h3, h4⟩ := h
    rw [beforeN_cons, ih h4 (by omega)]; omega

theorem nthO_some {lo : Int} {l : L} (h : Chain lo l) {n d : Int} (hn : 0 ≤ n) (he : nthO l n = some d) : Mem l d ∧ beforeN l d = n := by
  induction l generalizing lo n with
  | nil => simp [nthO] at he
  | cons s t ih =>
    obtain ⟨h1, h2, h3, h4⟩ := h
    unfold nthO at he
    rw [mem_cons, beforeN_cons]
    split at he
    · obtain rfl : s.1 + n = d := by simpa using he
      refine ⟨.inl ⟨by omega, by omega⟩, ?_⟩
      rw [beforeN_low h4 (by omega)]; omega
    · obtain ⟨m, e⟩ := ih h4 (by omega) he
      have := h4.lo m
      exact ⟨.inr m, by omega⟩
theorem nthO_none {lo : Int} {l : L} (h : Chain lo l) {n : Int} (hn : 0 ≤ n) (he : nthO l n = none) : beforeN l 65536 ≤ n := by
  induction l generalizing lo n with
  | nil => rw [beforeN_nil]; exact hn
  | cons s t ih =>
    obtain ⟨h1, h2, h3, h4⟩ := h
    unfold nthO at he
    rw [beforeN_cons]
    split at he
    · simp at he
    · have := ih h4 (by omega) he; omega

/-- One day more. -/
theorem beforeN_succ {l : L} (h : IsSet l) {d : Int} (hm : Mem l d) : beforeN l (d + 1) = beforeN l d + 1 := by
  have h1 := h.lo hm
  have h2 := h.hi hm
  rw [beforeN_clamp h (by omega), beforeN_clamp h (by omega), show (min (max (d + 1) 0) 65536).toNat = (min (max d 0) 65536).toNat + 1 from by omega]
  simp only [cnt]
  rw [show ((min (max d 0) 65536).toNat : Int) = d from by omega, (memB_iff l d).2 hm]; rfl
theorem beforeN_mono {l : L} (h : IsSet l) {d e : Int} (hde : d ≤ e) : beforeN l d ≤ beforeN l e := by
  rw [beforeN_clamp h (by omega), beforeN_clamp h (by omega)]
  exact cnt_mono _ (by omega)
theorem beforeN_lt {l : L} (h : IsSet l) {d e : Int} (hm : Mem l d) (hde : d < e) : beforeN l d < beforeN l e := by
  have := beforeN_succ h hm
  have := beforeN_mono h (show d + 1 ≤ e by omega)
  omega
theorem beforeN_inj {l : L} (h : IsSet l) {d e : Int} (hd : Mem l d) (he : Mem l e) (hb : beforeN l d = beforeN l e) : d = e := by
  rcases Int.lt_trichotomy d e with h' | h' | h'
  · have := beforeN_lt h hd h'; omega
  · exact h'
  · have := beforeN_lt h he h'; omega
theorem nthO_before {l : L} (h : IsSet l) {d : Int} (hd : Mem l d) : nthO l (beforeN l d) = some d := by
  have h0 := (beforeN_bd h d).1
  cases he : nthO l (beforeN l d) with
  | none =>
    have h1 := nthO_none h h0 he
    have h2 := beforeN_lt h hd (show d < 65536 from h.hi hd)
    omega
  | some e =>
    obtain ⟨m, hb⟩ := nthO_some h h0 he
    rw [beforeN_inj h m hd hb]
theorem nthO_lt {l : L} (h : IsSet l) {n : Int} (hn : 0 ≤ n) : (nthO l n).isSome = decide (n < beforeN l 65536) := by
  cases he : nthO l n with
  | none => have := nthO_none h hn he; simp; omega
  | some d =>
    obtain ⟨m, hb⟩ := nthO_some h hn he
    have := beforeN_lt h m (h.hi m)
    simp; omega

/-! Short gaps filled. -/

def stepB (days : Int) (acc : L) (s : Int × Int) : L :=
  match acc.getLast? with
  | none => [s]
  | some p => if s.1 - p.2 ≤ days then acc.dropLast ++ [(p.1, s.2)] else acc ++ [s]
def bridge (days : Int) (l : L) : L := l.foldl (stepB days) []
theorem bridge_snoc (days : Int) (l : L) (s : Int × Int) : bridge days (l ++ [s]) = stepB days (bridge days l) s := by simp [bridge]

/-- The gaps that are short. -/
def Gap (days : Int) (l : L) (d : Int) : Prop := ∃ (k : Nat) (h : k + 1 < l.length), (l[k + 1]).1 - (l[k]).2 ≤ days ∧ (l[k]).2 ≤ d ∧ d < (l[k + 1]).1

theorem gap_snoc (days : Int) (l : L) (p s : Int × Int) (d : Int) : Gap days (l ++ [p] ++ [s]) d ↔ Gap days (l ++ [p]) d ∨ (s.1 - p.2 ≤ days ∧ p.2 ≤ d ∧ d < s.1) := by
  constructor
  · rintro ⟨k, hk, h1, h2, h3⟩
    simp only [List.length_append, List.length_cons, List.length_nil] at hk
    rcases Nat.lt_or_ge (k + 1) (l.length + 1) with h | h
    · refine .inl ⟨k, by simpa using h, ?_⟩
      have e1 : k + 1 < (l ++ [p]).length := by simp; omega
      rw [List.getElem_append_left e1, List.getElem_append_left (Nat.lt_of_succ_lt e1)] at h1
      rw [List.getElem_append_left (Nat.lt_of_succ_lt e1)] at h2
      rw [List.getElem_append_left e1] at h3
      exact ⟨h1, h2, h3⟩
    · obtain rfl : k = l.length := by omega
      simp at h1 h2 h3
      exact .inr ⟨h1, h2, h3⟩
  · rintro (⟨k, hk, h1, h2, h3⟩ | ⟨h1, h2, h3⟩)
    · refine ⟨k, Nat.lt_of_lt_of_le hk (by simp), ?_⟩
      rw [List.getElem_append_left hk, List.getElem_append_left (Nat.lt_of_succ_lt hk)]
      exact ⟨h1, h2, h3⟩
    · refine ⟨l.length, by simp, ?_⟩
      simp
      exact ⟨h1, h2, h3⟩

/-- What is known of l bridged. -/
theorem bridge_spec {days : Int} (n : Nat) : ∀ (l : L) (p : Int × Int), l.length = n → IsSet (l ++ [p]) →
    ∃ (m : L) (f : Int), bridge days (l ++ [p]) = m ++ [(f, p.2)] ∧ f ≤ p.1 ∧ IsSet (m ++ [(f, p.2)]) ∧ (∀ d, Mem (m ++ [(f, p.2)]) d ↔ Mem (l ++ [p]) d ∨ Gap days (l ++ [p]) d) ∧
      (∀ (k : Nat) (h : k + 1 < (m ++ [(f, p.2)]).length), days < ((m ++ [(f, p.2)])[k + 1]).1 - ((m ++ [(f, p.2)])[k]).2) ∧ ((m ++ [(f, p.2)]).head?.map Prod.fst = (l ++ [p]).head?.map Prod.fst) := by
  induction n with
  | zero =>
    intro l p hl hs
    obtain rfl : l = [] := List.eq_nil_of_length_eq_zero hl
    refine ⟨[], p.1, rfl, Int.le_refl _, hs, fun d => ?_, fun k h => by simp at h, rfl⟩
    constructor
    · exact .inl
    · rintro (h | ⟨k, h, _⟩)
      · exact h
      · simp at h
  | succ n ih =>
    intro l s hl hs
    obtain ⟨l', p, rfl⟩ : ∃ l' p, l = l' ++ [p] := ⟨l.dropLast, l.getLast (by intro e; rw [e] at hl; simp at hl), (List.dropLast_concat_getLast _).symm⟩
    have hs' := hs
    rw [IsSet, chain_snoc, lastTo_snoc] at hs
    obtain ⟨h1, h2, h3, h4⟩ := hs
    obtain ⟨m, f, e, hf, hset, hmem, hgap, hhead⟩ := ih l' p (by simpa using hl) h1
    rw [bridge_snoc, e]
    have hset' := hset
    rw [IsSet, chain_snoc] at hset'
    obtain ⟨g1, g2, g3, g4⟩ := hset'
    simp only at g2 g3 g4
    by_cases hc : s.1 - p.2 ≤ days
    · refine ⟨m, f, ?_, by omega, ?_, fun d => ?_, ?_, ?_⟩
      · simp [stepB, hc]
      · rw [IsSet, chain_snoc]; exact ⟨g1, g2, by simp only; omega, by simp only; omega⟩
      · rw [gap_snoc, mem_append _ [s], mem_append m, mem_cons, mem_cons]
        have := hmem d
        rw [mem_append m, mem_cons] at this
        have n1 := mem_nil d
        simp only [n1, or_false] at this ⊢
        constructor
        · rintro (h | h)
          · rcases this.1 (.inl h) with h | h
            · exact .inl (.inl h)
            · exact .inr (.inl h)
          · rcases Int.lt_or_le d p.2 with hp | hp
            · rcases this.1 (.inr ⟨h.1, hp⟩) with h | h
              · exact .inl (.inl h)
              · exact .inr (.inl h)
            · rcases Int.lt_or_le d s.1 with hx | hx
              · exact .inr (.inr ⟨hc, hp, hx⟩)
              · exact .inl (.inr ⟨hx, h.2⟩)
        · rintro ((h | h) | (h | h))
          · rcases this.2 (.inl h) with h | h
            · exact .inl h
            · exact .inr ⟨h.1, by omega⟩
          · exact .inr ⟨by omega, h.2⟩
          · rcases this.2 (.inr h) with h | h
            · exact .inl h
            · exact .inr ⟨h.1, by omega⟩
          · exact .inr ⟨by omega, by omega⟩
      · intro k hk
        have hk' : k + 1 < (m ++ [(f, p.2)]).length := by simpa using hk
        have := hgap k hk'
        have hk2 : k < m.length := by simp at hk; omega
        rw [List.getElem_append_left (as := m) (bs := [(f, s.2)]) hk2]
        rw [List.getElem_append_left (as := m) (bs := [(f, p.2)]) hk2] at this
        rcases Nat.lt_or_ge (k + 1) m.length with h | h
        · rw [List.getElem_append_left h] at this ⊢; exact this
        · rw [List.getElem_append_right h] at this ⊢
          simp only [List.getElem_singleton] at this ⊢
          exact this
      · rw [List.head?_append, List.head?_append]
        have := hhead
        rw [List.head?_append] at this
        cases m with
        | nil =>
          simp at this ⊢
          cases l' with
          | nil => simpa using this
          | cons => simpa using this
        | cons x y =>
          simp at this ⊢
          cases l' with
          | nil => simpa using this
          | cons => simpa using this
    · refine ⟨m ++ [(f, p.2)], s.1, ?_, Int.le_refl _, ?_, fun d => ?_, ?_, ?_⟩
      · simp [stepB, hc]
      · rw [IsSet, chain_snoc, lastTo_snoc]; exact ⟨hset, h2, h3, h4⟩
      · rw [gap_snoc, mem_append _ [s], mem_append _ [(s.1, s.2)]]
        have := hmem d
        constructor
        · rintro (h | h)
          · rcases this.1 h with h | h
            · exact .inl (.inl h)
            · exact .inr (.inl h)
          · exact .inl (.inr h)
        · rintro ((h | h) | (h | h))
          · exact .inl (this.2 (.inl h))
          · exact .inr h
          · exact .inl (this.2 (.inr h))
          · exact absurd h.1 hc
      · intro k hk
        rcases Nat.lt_or_ge (k + 1) (m ++ [(f, p.2)]).length with h | h
        · rw [List.getElem_append_left h, List.getElem_append_left (Nat.lt_of_succ_lt h)]; exact hgap k h
        · simp at hk h
          obtain rfl : k = m.length := by omega
          simp
          omega
      · rw [List.head?_append, List.head?_append (l := l' ++ [p])]
        have n1 : (m ++ [(f, p.2)]).head?.isSome := by cases m <;> simp
        have n2 : (l' ++ [p]).head?.isSome := by cases l' <;> simp
        rw [Option.or_of_isSome n1, Option.or_of_isSome n2]
        exact hhead

end Sp
end Go.Proofs.YtanlaejdibikiaaGreat
