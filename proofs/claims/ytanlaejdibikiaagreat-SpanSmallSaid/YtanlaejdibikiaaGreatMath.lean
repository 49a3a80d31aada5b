/-
Sets of days as lists of spans: when a list is a set; the days of it; a set is told by its days; how many days there are, and which is the n-th.
-/
namespace Go.Proofs.YtanlaejdibikiaaGreat
namespace Sp

abbrev L := List (Int × Int)

/-- The spans begin behind lo, follow each other with gaps, and end with day 65535. -/
def Chain : Int → L → Prop
  | _, [] => True
  | lo, s :: t => lo < s.1 ∧ s.1 < s.2 ∧ s.2 ≤ 65536 ∧ Chain s.2 t

def IsSet (l : L) : Prop := Chain (-1) l
def Mem (l : L) (d : Int) : Prop := ∃ s ∈ l, s.1 ≤ d ∧ d < s.2

theorem mem_nil (d : Int) : ¬ Mem [] d := by rintro ⟨s, h, _⟩; simp at h
theorem mem_cons (s : Int × Int) (t : L) (d : Int) : Mem (s :: t) d ↔ (s.1 ≤ d ∧ d < s.2) ∨ Mem t d := by
  simp [Mem]
theorem mem_append (a b : L) (d : Int) : Mem (a ++ b) d ↔ Mem a d ∨ Mem b d := by
  induction a with
  | nil => simp [mem_nil]
  | cons s t ih => rw [List.cons_append, mem_cons, mem_cons, ih, or_assoc]

theorem Chain.lo {lo : Int} {l : L} (h : Chain lo l) {d : Int} (hd : Mem l d) : lo < d := by
  induction l generalizing lo with
  | nil => exact absurd hd (mem_nil d)
  | cons s t ih =>
    obtain ⟨h1, h2, h3, h4⟩ := h
    rcases (mem_cons s t d).1 hd with h | h
    · omega
    · have := ih h4 h; omega
theorem Chain.hi {lo : Int} {l : L} (h : Chain lo l) {d : Int} (hd : Mem l d) : d < 65536 := by
  induction l generalizing lo with
  | nil => exact absurd hd (mem_nil d)
  | cons s t ih =>
    obtain ⟨h1, h2, h3, h4⟩ := h
    rcases (mem_cons s t d).1 hd with h | h
    · omega
    · exact ih h4 h
theorem Chain.mono {lo lo' : Int} {l : L} (h : Chain lo l) (hl : lo' ≤ lo) : Chain lo' l := by
  cases l with
  | nil => trivial
  | cons s t => exact ⟨by have := h.1; omega, h.2⟩

theorem chain_ext {lo : Int} {a b : L} (ha : Chain lo a) (hb : Chain lo b) (h : ∀ d, Mem a d ↔ Mem b d) : a = b := by
  induction a generalizing lo b with
  | nil =>
    cases b with
    | nil => rfl
    | cons s t =>
      have := (h s.1).2 ((mem_cons s t s.1).2 (.inl ⟨by omega, hb.2.1⟩))
      exact absurd this (mem_nil _)
  | cons s t ih =>
    cases b with
    | nil => exact absurd ((h s.1).1 ((mem_cons s t s.1).2 (.inl ⟨by omega, ha.2.1⟩))) (mem_nil _)
    | cons s' t' =>
      obtain ⟨a1, a2, a3, a4⟩ := ha
      obtain ⟨b1, b2, b3, b4⟩ := hb
      have e1 : s.1 = s'.1 := by
        have hx := (mem_cons s' t' s.1).1 ((h s.1).1 ((mem_cons s t s.1).2 (.inl ⟨by omega, a2⟩)))
        have hy := (mem_cons s t s'.1).1 ((h s'.1).2 ((mem_cons s' t' s'.1).2 (.inl ⟨by omega, b2⟩)))
        rcases hx with hx | hx <;> rcases hy with hy | hy
        · omega
        · have := a4.lo hy; omega
        · have := b4.lo hx; omega
        · have := a4.lo hy; have := b4.lo hx; omega
      have e2 : s.2 = s'.2 := by
        rcases Int.lt_trichotomy s.2 s'.2 with hlt | he | hlt
        · have hy := (mem_cons s t s.2).1 ((h s.2).2 ((mem_cons s' t' s.2).2 (.inl ⟨by omega, hlt⟩)))
          rcases hy with hy | hy
          · omega
          · have := a4.lo hy; omega
        · exact he
        · have hy := (mem_cons s' t' s'.2).1 ((h s'.2).1 ((mem_cons s t s'.2).2 (.inl ⟨by omega, hlt⟩)))
          rcases hy with hy | hy
          · omega
          · have := b4.lo hy; omega
      have es : s = s' := Prod.ext e1 e2
      subst es
      congr 1
      refine ih a4 b4 fun d => ⟨fun hd => ?_, fun hd => ?_⟩
      · have := a4.lo hd
        rcases (mem_cons s t' d).1 ((h d).1 ((mem_cons s t d).2 (.inr hd))) with hx | hx
        · omega
        · exact hx
      · have := b4.lo hd
        rcases (mem_cons s t d).1 ((h d).2 ((mem_cons s t' d).2 (.inr hd))) with hx | hx
        · omega
        · exact hx

theorem set_ext {a b : L} (ha : IsSet a) (hb : IsSet b) (h : ∀ d, Mem a d ↔ Mem b d) : a = b := chain_ext ha hb h

/-- The To of the last span, or lo. -/
def lastTo (lo : Int) : L → Int
  | [] => lo
  | s :: t => lastTo s.2 t
theorem lastTo_snoc (lo : Int) (l : L) (s : Int × Int) : lastTo lo (l ++ [s]) = s.2 := by
  induction l generalizing lo with
  | nil => rfl
  | cons x t ih => exact ih _
theorem chain_snoc {lo : Int} {l : L} {s : Int × Int} : Chain lo (l ++ [s]) ↔ Chain lo l ∧ lastTo lo l < s.1 ∧ s.1 < s.2 ∧ s.2 ≤ 65536 := by
  induction l generalizing lo with
  | nil => simp [Chain, lastTo]
  | cons x t ih => simp only [List.cons_append, Chain, lastTo, ih]; constructor <;> (intro h; simp only [h, and_self])
theorem Chain.last {lo : Int} {l : L} (h : Chain lo l) {d : Int} (hd : Mem l d) : d < lastTo lo l := by
  induction l generalizing lo with
  | nil => exact absurd hd (mem_nil d)
  | cons s t ih =>
    obtain ⟨h1, h2, h3, h4⟩ := h
    have hm : s.2 ≤ lastTo s.2 t := by
      clear ih hd
      generalize s.2 = x at h4
      clear h1 h2 h3 s
      induction t generalizing x with
      | nil => exact Int.le_refl _
      | cons y u ih => have := ih _ h4.2.2.2; have := h4.1; have := h4.2.1; simp only [lastTo]; omega
    rcases (mem_cons s t d).1 hd with h | h
    · simp only [lastTo]; omega
    · exact ih h4 h
theorem Chain.lastTo_ge {lo : Int} {l : L} (h : Chain lo l) : lo ≤ lastTo lo l := by
  induction l generalizing lo with
  | nil => exact Int.le_refl _
  | cons s t ih => have := ih h.2.2.2; have := h.1; have := h.2.1; simp only [lastTo]; omega
theorem Chain.length {lo : Int} {l : L} (h : Chain lo l) (h0 : -1 ≤ lo) : lo + 2 * (l.length : Int) ≤ 65536 ∨ l = [] := by
  induction l generalizing lo with
  | nil => exact .inr rfl
  | cons s t ih =>
    obtain ⟨h1, h2, h3, h4⟩ := h
    refine .inl ?_
    rcases ih h4 (by omega) with h | rfl
    · simp only [List.length_cons]; omega
    · simp; omega
theorem IsSet.length {l : L} (h : IsSet l) : l.length ≤ 32768 := by
  rcases Chain.length h (by omega) with h | rfl
  · omega
  · simp
theorem Chain.get {lo : Int} {l : L} (h : Chain lo l) {i : Nat} (hi : i < l.length) : lo < (l[i]).1 ∧ (l[i]).1 < (l[i]).2 ∧ (l[i]).2 ≤ 65536 := by
  induction l generalizing lo i with
  | nil => simp at hi
  | cons s t ih =>
    cases i with
    | zero => exact ⟨h.1, h.2.1, h.2.2.1⟩
    | succ i =>
      have := ih h.2.2.2 (i := i) (by simpa using hi)
      have := h.1; have := h.2.1
      simp only [List.getElem_cons_succ]
      omega
theorem Chain.next {lo : Int} {l : L} (h : Chain lo l) {i : Nat} (hi : i + 1 < l.length) : (l[i]).2 < (l[i+1]).1 := by
  induction l generalizing lo i with
  | nil => simp at hi
  | cons s t ih =>
    cases i with
    | zero =>
      cases t with
      | nil => simp at hi
      | cons x u => exact h.2.2.2.1
    | succ i => exact ih h.2.2.2 (i := i) (by simpa using hi)

/-- A list that is a set, told by its elements. -/
theorem chain_of {lo : Int} {l : L} (h0 : ∀ (h : 0 < l.length), lo < (l[0]).1) (h1 : ∀ i (h : i < l.length), (l[i]).1 < (l[i]).2 ∧ (l[i]).2 ≤ 65536) (h2 : ∀ i (h : i + 1 < l.length), (l[i]).2 < (l[i+1]).1) : Chain lo l := by
  induction l generalizing lo with
  | nil => trivial
  | cons s t ih =>
    refine ⟨h0 (by simp), (h1 0 (by simp)).1, (h1 0 (by simp)).2, ih (fun h => h2 0 (by simpa using h)) (fun i h => h1 (i+1) (by simpa using h)) (fun i h => h2 (i+1) (by simpa using h))⟩

end Sp
end Go.Proofs.YtanlaejdibikiaaGreat
