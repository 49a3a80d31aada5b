/-
Two sets gone through by their bounds: what comes of it is the set of the days that are wanted.
-/
import Derived.Test.YtanlaejdibikiaaGreatMath
namespace Go.Proofs.YtanlaejdibikiaaGreat
namespace Sp

/-- Bound number i of a set; behind the last one 65537. -/
def bnd (l : L) (i : Nat) : Int :=
  if i < 2 * l.length then (if i % 2 = 0 then (l[i/2]?.getD (0, 0)).1 else (l[i/2]?.getD (0, 0)).2) else 65537

theorem bnd_even {l : L} {k : Nat} (h : k < l.length) : bnd l (2 * k) = (l[k]).1 := by
  unfold bnd; rw [if_pos (by omega), if_pos (by omega)]; simp [h]
theorem bnd_odd {l : L} {k : Nat} (h : k < l.length) : bnd l (2 * k + 1) = (l[k]).2 := by
  unfold bnd; rw [if_pos (by omega), if_neg (by omega), show (2 * k + 1) / 2 = k from by omega]; simp [h]
theorem bnd_out {l : L} {i : Nat} (h : 2 * l.length ≤ i) : bnd l i = 65537 := by
  unfold bnd; rw [if_neg (by omega)]

theorem bnd_bd {l : L} (hs : IsSet l) {i : Nat} (h : i < 2 * l.length) : 0 ≤ bnd l i ∧ bnd l i ≤ 65536 := by
  have hk : i / 2 < l.length := by omega
  have := hs.get hk
  rcases Nat.mod_two_eq_zero_or_one i with e | e
  · rw [show i = 2 * (i / 2) from by omega, bnd_even hk]; omega
  · rw [show i = 2 * (i / 2) + 1 from by omega, bnd_odd hk]; omega
theorem bnd_bd' {l : L} (hs : IsSet l) (i : Nat) : 0 ≤ bnd l i ∧ bnd l i ≤ 65537 := by
  rcases Nat.lt_or_ge i (2 * l.length) with h | h
  · have := bnd_bd hs h; omega
  · rw [bnd_out h]; omega

theorem bnd_lt {l : L} (hs : IsSet l) {i : Nat} (h : i < 2 * l.length) : bnd l i < bnd l (i + 1) := by
  have hk : i / 2 < l.length := by omega
  have hg := hs.get hk
  rcases Nat.mod_two_eq_zero_or_one i with e | e
  · have e1 : i = 2 * (i / 2) := by omega
    have e2 : bnd l i = (l[i/2]).1 := by conv => lhs; rw [e1]
                                         exact bnd_even hk
    have e3 : bnd l (i + 1) = (l[i/2]).2 := by conv => lhs; rw [e1]
                                               exact bnd_odd hk
    omega
  · have e1 : i = 2 * (i / 2) + 1 := by omega
    have e2 : bnd l i = (l[i/2]).2 := by conv => lhs; rw [e1]
                                         exact bnd_odd hk
    by_cases hn : i / 2 + 1 < l.length
    · have e3 : bnd l (i + 1) = (l[i/2+1]).1 := by
        conv => lhs; rw [e1, show 2 * (i / 2) + 1 + 1 = 2 * (i / 2 + 1) from by omega]
        exact bnd_even hn
      have := Chain.next hs hn
      omega
    · rw [bnd_out (i := i + 1) (by omega)]
      omega
theorem bnd_mono {l : L} (hs : IsSet l) {i j : Nat} (h : i < j) (hj : j ≤ 2 * l.length) : bnd l i < bnd l j := by
  induction j with
  | zero => omega
  | succ j ih =>
    have := bnd_lt hs (i := j) (by omega)
    rcases Nat.lt_or_ge i j with h' | h'
    · have := ih h' (by omega); omega
    · rw [show i = j from by omega]; exact this

/-- Between bound i - 1 and bound i a day is in the set exactly if i is odd. -/
theorem mem_odd {l : L} (hs : IsSet l) {i : Nat} (hi : i ≤ 2 * l.length) {d : Int} (h1 : i = 0 ∨ bnd l (i - 1) ≤ d) (h2 : d < bnd l i) : Mem l d ↔ i % 2 = 1 := by
  constructor
  · rintro ⟨s, hm, m1, m2⟩
    obtain ⟨k, hk, rfl⟩ := List.getElem_of_mem hm
    rw [← bnd_even hk] at m1
    rw [← bnd_odd hk] at m2
    have a1 : 2 * k < i := by
      rcases Nat.lt_or_ge (2 * k) i with h | h
      · exact h
      · rcases Nat.lt_or_ge i (2 * k) with h' | h'
        · have := bnd_mono hs h' (by omega); omega
        · rw [show 2 * k = i from by omega] at m1; omega
    have a2 : i < 2 * k + 2 := by
      rcases Nat.lt_or_ge i (2 * k + 2) with h | h
      · exact h
      · rcases h1 with h1 | h1
        · omega
        · rcases Nat.lt_or_ge (2 * k + 1) (i - 1) with h' | h'
          · have := bnd_mono hs h' (by omega); omega
          · rw [show i - 1 = 2 * k + 1 from by omega] at h1; omega
    omega
  · intro e
    have hk : i / 2 < l.length := by omega
    refine ⟨l[i/2], List.getElem_mem hk, ?_, ?_⟩
    · rcases h1 with h1 | h1
      · omega
      · rw [show i - 1 = 2 * (i / 2) from by omega, bnd_even hk] at h1; exact h1
    · have : bnd l i = (l[i/2]).2 := by
        conv => lhs; rw [show i = 2 * (i / 2) + 1 from by omega]
        exact bnd_odd hk
      omega

def od (i : Nat) : Bool := decide (i % 2 = 1)

def nday (a b : L) (i j : Nat) : Int := min (bnd a i) (bnd b j)
def ni (a b : L) (i j : Nat) : Nat := if bnd a i = nday a b i j then i + 1 else i
def nj (a b : L) (i j : Nat) : Nat := if bnd b j = nday a b i j then j + 1 else j

/-- What is yielded from bounds i and j on. -/
def chg (a b : L) : Nat → Nat → Nat → List (Int × Bool × Bool)
  | 0, _, _ => []
  | n + 1, i, j => if i < 2 * a.length ∨ j < 2 * b.length then (nday a b i j, od (ni a b i j), od (nj a b i j)) :: chg a b n (ni a b i j) (nj a b i j) else []

def chgs (a b : L) : List (Int × Bool × Bool) := chg a b (2 * a.length + 2 * b.length) 0 0

theorem step_le {a b : L} (ha : IsSet a) (hb : IsSet b) {i j : Nat} (hi : i ≤ 2 * a.length) (hj : j ≤ 2 * b.length) (h : i < 2 * a.length ∨ j < 2 * b.length) :
    ni a b i j ≤ 2 * a.length ∧ nj a b i j ≤ 2 * b.length ∧ i + j < ni a b i j + nj a b i j ∧ 0 ≤ nday a b i j ∧ nday a b i j ≤ 65536 := by
  have x1 := bnd_bd' ha i
  have x2 := bnd_bd' hb j
  have o1 : ¬ i < 2 * a.length → bnd a i = 65537 := fun h => bnd_out (by omega)
  have o2 : ¬ j < 2 * b.length → bnd b j = 65537 := fun h => bnd_out (by omega)
  have p1 : i < 2 * a.length → bnd a i ≤ 65536 := fun h => (bnd_bd ha h).2
  have p2 : j < 2 * b.length → bnd b j ≤ 65536 := fun h => (bnd_bd hb h).2
  unfold ni nj nday
  split <;> split <;> omega

structure St where
  l : L
  frm : Int
  opn : Bool

def stepC (op : Bool → Bool → Bool) (s : St) (y : Int × Bool × Bool) : St :=
  ⟨if s.opn && !op y.2.1 y.2.2 then s.l ++ [(s.frm, y.1)] else s.l, if op y.2.1 y.2.2 && !s.opn then y.1 else s.frm, op y.2.1 y.2.2⟩

def run (op : Bool → Bool → Bool) (ys : List (Int × Bool × Bool)) : St := ys.foldl (stepC op) ⟨[], 0, false⟩
def comb (op : Bool → Bool → Bool) (a b : L) : L := (run op (chgs a b)).l
theorem run_snoc (op : Bool → Bool → Bool) (ys : List (Int × Bool × Bool)) (y : Int × Bool × Bool) : run op (ys ++ [y]) = stepC op (run op ys) y := by
  simp [run]

noncomputable def memB (l : L) (d : Int) : Bool := @decide (Mem l d) (Classical.propDecidable _)
theorem memB_iff (l : L) (d : Int) : memB l d = true ↔ Mem l d := by unfold memB; simp
theorem memB_odd {l : L} (hs : IsSet l) {i : Nat} (hi : i ≤ 2 * l.length) {d : Int} (h1 : i = 0 ∨ bnd l (i - 1) ≤ d) (h2 : d < bnd l i) : memB l d = od i := by
  rw [Bool.eq_iff_iff, memB_iff, mem_odd hs hi h1 h2]; simp [od]

/-- Where the sweep stands. -/
structure Inv (op : Bool → Bool → Bool) (a b : L) (i j : Nat) (D : Int) (s : St) : Prop where
  hi : i ≤ 2 * a.length
  hj : j ≤ 2 * b.length
  pi : i = 0 ∨ bnd a (i - 1) ≤ D
  pj : j = 0 ∨ bnd b (j - 1) ≤ D
  qi : D < bnd a i
  qj : D < bnd b j
  opn : s.opn = op (od i) (od j)
  set : IsSet s.l
  last : lastTo (-1) s.l ≤ D
  frm : s.opn = true → lastTo (-1) s.l < s.frm ∧ s.frm ≤ D
  days : ∀ d, d < D → (op (memB a d) (memB b d) = true ↔ Mem s.l d ∨ (s.opn = true ∧ s.frm ≤ d))

theorem Inv.start (op : Bool → Bool → Bool) (h0 : op false false = false) {a b : L} (ha : IsSet a) (hb : IsSet b) : Inv op a b 0 0 (-1) ⟨[], 0, false⟩ where
  hi := by omega
  hj := by omega
  pi := .inl rfl
  pj := .inl rfl
  qi := by have := bnd_bd' ha 0; omega
  qj := by have := bnd_bd' hb 0; omega
  opn := by simp [od, h0]
  set := trivial
  last := by simp [lastTo]
  frm := by simp
  days := fun d hd => by
    have e1 : memB a d = false := by rw [Bool.eq_false_iff, ne_eq, memB_iff]; intro h; have := Chain.lo ha h; omega
    have e2 : memB b d = false := by rw [Bool.eq_false_iff, ne_eq, memB_iff]; intro h; have := Chain.lo hb h; omega
    simp [e1, e2, h0, mem_nil]

theorem Inv.between {op : Bool → Bool → Bool} {a b : L} (ha : IsSet a) (hb : IsSet b) {i j : Nat} {D : Int} {s : St} (h : Inv op a b i j D s) {d : Int} (h1 : D ≤ d) (h2 : d < nday a b i j) :
    op (memB a d) (memB b d) = s.opn := by
  have x1 : d < bnd a i := by have := Int.min_le_left (bnd a i) (bnd b j); unfold nday at h2; omega
  have x2 : d < bnd b j := by have := Int.min_le_right (bnd a i) (bnd b j); unfold nday at h2; omega
  rw [memB_odd ha h.hi (h.pi.imp id (fun h => by omega)) x1, memB_odd hb h.hj (h.pj.imp id (fun h => by omega)) x2, h.opn]

theorem Inv.step {op : Bool → Bool → Bool} {a b : L} (ha : IsSet a) (hb : IsSet b) {i j : Nat} {D : Int} {s : St} (h : Inv op a b i j D s) (hm : i < 2 * a.length ∨ j < 2 * b.length) :
    D < nday a b i j ∧ Inv op a b (ni a b i j) (nj a b i j) (nday a b i j) (stepC op s (nday a b i j, od (ni a b i j), od (nj a b i j))) := by
  obtain ⟨g1, g2, g3, g4, g5⟩ := step_le ha hb h.hi h.hj hm
  have hD : D < nday a b i j := by have := h.qi; have := h.qj; unfold nday; omega
  have hbt := fun d => h.between ha hb (d := d)
  have qa : nday a b i j < bnd a (ni a b i j) := by
    unfold ni
    split
    · rename_i e
      have : i < 2 * a.length := by
        rcases Nat.lt_or_ge i (2 * a.length) with h | h
        · exact h
        · rw [bnd_out h] at e; omega
      have := bnd_lt ha this; omega
    · rename_i e; have := Int.min_le_left (bnd a i) (bnd b j); unfold nday at e ⊢; omega
  have qb : nday a b i j < bnd b (nj a b i j) := by
    unfold nj
    split
    · rename_i e
      have : j < 2 * b.length := by
        rcases Nat.lt_or_ge j (2 * b.length) with h | h
        · exact h
        · rw [bnd_out h] at e; omega
      have := bnd_lt hb this; omega
    · rename_i e; have := Int.min_le_right (bnd a i) (bnd b j); unfold nday at e ⊢; omega
  have pa : ni a b i j = 0 ∨ bnd a (ni a b i j - 1) ≤ nday a b i j := by
    unfold ni
    split
    · rename_i e; right; rw [Nat.add_sub_cancel]; omega
    · exact h.pi.imp id (fun h => by omega)
  have pb : nj a b i j = 0 ∨ bnd b (nj a b i j - 1) ≤ nday a b i j := by
    unfold nj
    split
    · rename_i e; right; rw [Nat.add_sub_cancel]; omega
    · exact h.pj.imp id (fun h => by omega)
  refine ⟨hD, ?_⟩
  generalize nday a b i j = D' at *
  generalize ni a b i j = i' at *
  generalize nj a b i j = j' at *
  obtain ⟨l, f, o⟩ := s
  have hl := h.last
  have hset := h.set
  have hfr := h.frm
  have hdays := h.days
  simp only at hl hset hfr hdays hbt
  have hout : ∀ d, D ≤ d → ¬ Mem l d := fun d hd hm => by have := Chain.last hset hm; omega
  refine ⟨g1, g2, pa, pb, qa, qb, rfl, ?_, ?_, ?_, ?_⟩
  · simp only [stepC]
    split
    · rename_i e
      simp at e
      obtain ⟨f1, f2⟩ := hfr e.1
      exact chain_snoc.2 ⟨hset, f1, by show f < D'; omega, by show D' ≤ 65536; omega⟩
    · exact hset
  · simp only [stepC]
    split
    · rw [lastTo_snoc]; exact Int.le_refl _
    · omega
  · intro e
    simp only [stepC] at e ⊢
    simp only [e, Bool.not_true, Bool.and_false, Bool.true_and]
    simp only [Bool.false_eq_true, if_false]
    cases o
    · simp; omega
    · obtain ⟨f1, f2⟩ := hfr rfl
      simp; omega
  · intro d hd
    simp only [stepC]
    rcases Int.lt_or_le d D with hdD | hdD
    · rw [hdays d hdD]
      cases o
      · cases op (od i') (od j')
        · simp
        · simp; intro; omega
      · obtain ⟨f1, f2⟩ := hfr rfl
        cases op (od i') (od j')
        · simp [mem_append, mem_cons, mem_nil]
          constructor
          · rintro (h | h)
            · exact .inl h
            · exact .inr ⟨h, by omega⟩
          · rintro (h | h)
            · exact .inl h
            · exact .inr h.1
        · simp
    · rw [hbt d hdD hd]
      have hn := hout d hdD
      cases o
      · cases op (od i') (od j')
        · simp [hn]
        · simp [hn]; omega
      · obtain ⟨f1, f2⟩ := hfr rfl
        cases op (od i') (od j')
        · simp [mem_append, mem_cons, mem_nil]
          right; omega
        · simp; right; omega

theorem Inv.all {op : Bool → Bool → Bool} {a b : L} (ha : IsSet a) (hb : IsSet b) (n : Nat) : ∀ {i j : Nat} {D : Int} {s : St}, Inv op a b i j D s → 2 * a.length + 2 * b.length ≤ n + i + j →
    ∃ D', Inv op a b (2 * a.length) (2 * b.length) D' ((chg a b n i j).foldl (stepC op) s) := by
  induction n with
  | zero =>
    intro i j D s h hn
    have := h.hi; have := h.hj
    obtain rfl : i = 2 * a.length := by omega
    obtain rfl : j = 2 * b.length := by omega
    exact ⟨D, h⟩
  | succ n ih =>
    intro i j D s h hn
    unfold chg
    split
    · rename_i hm
      obtain ⟨_, h'⟩ := h.step ha hb hm
      obtain ⟨g1, g2, g3, _⟩ := step_le ha hb h.hi h.hj hm
      exact ih h' (by omega)
    · have := h.hi; have := h.hj
      obtain rfl : i = 2 * a.length := by omega
      obtain rfl : j = 2 * b.length := by omega
      exact ⟨D, h⟩

theorem comb_spec (op : Bool → Bool → Bool) (h0 : op false false = false) {a b : L} (ha : IsSet a) (hb : IsSet b) :
    IsSet (comb op a b) ∧ ∀ d, Mem (comb op a b) d ↔ op (memB a d) (memB b d) = true := by
  obtain ⟨D, h⟩ := Inv.all ha hb (2 * a.length + 2 * b.length) (Inv.start op h0 ha hb) (by omega)
  have hc : comb op a b = ((chg a b (2 * a.length + 2 * b.length) 0 0).foldl (stepC op) ⟨[], 0, false⟩).l := rfl
  rw [hc]
  generalize (chg a b (2 * a.length + 2 * b.length) 0 0).foldl (stepC op) ⟨[], 0, false⟩ = s at h
  have ho : s.opn = false := by rw [h.opn]; simp [od, h0]
  refine ⟨h.set, fun d => ?_⟩
  rcases Int.lt_or_le d D with hd | hd
  · rw [h.days d hd]; simp [ho]
  · have e : op (memB a d) (memB b d) = false := by
      rcases Int.lt_or_le d 65537 with h7 | h7
      · rw [← ho]
        refine h.between ha hb hd ?_
        unfold nday; rw [bnd_out (Nat.le_refl _), bnd_out (Nat.le_refl _)]; omega
      · have e1 : memB a d = false := by rw [Bool.eq_false_iff, ne_eq, memB_iff]; intro h; have := Chain.hi ha h; omega
        have e2 : memB b d = false := by rw [Bool.eq_false_iff, ne_eq, memB_iff]; intro h; have := Chain.hi hb h; omega
        rw [e1, e2, h0]
    rw [e]
    simp
    intro hm
    have := Chain.last h.set hm
    have := h.last
    omega

/-- Every list on the way is a set. -/
theorem Inv.pre {op : Bool → Bool → Bool} {a b : L} (ha : IsSet a) (hb : IsSet b) (n : Nat) : ∀ {i j : Nat} {D : Int} {s : St}, Inv op a b i j D s →
    ∀ k, IsSet (((chg a b n i j).take k).foldl (stepC op) s).l := by
  induction n with
  | zero => intro i j D s h k; simp [chg]; exact h.set
  | succ n ih =>
    intro i j D s h k
    cases k with
    | zero => exact h.set
    | succ k =>
      unfold chg
      split
      · rename_i hm
        exact ih (h.step ha hb hm).2 k
      · exact h.set
theorem run_set (op : Bool → Bool → Bool) (h0 : op false false = false) {a b : L} (ha : IsSet a) (hb : IsSet b) (k : Nat) : IsSet (run op ((chgs a b).take k)).l :=
  Inv.pre ha hb _ (Inv.start op h0 ha hb) k

theorem chg_length (a b : L) (n : Nat) : ∀ i j, (chg a b n i j).length ≤ n := by
  induction n with
  | zero => intro i j; simp [chg]
  | succ n ih => intro i j; unfold chg; split <;> simp; exact ih _ _
theorem chg_done {a b : L} {n i j : Nat} (h1 : 2 * a.length ≤ i) (h2 : 2 * b.length ≤ j) : chg a b n i j = [] := by
  cases n with
  | zero => rfl
  | succ n => unfold chg; rw [if_neg (by omega)]
/-- One step of the sweep: the number of steps still allowed goes down with the bounds. -/
theorem chg_step {a b : L} (ha : IsSet a) (hb : IsSet b) : ∀ {n i j : Nat}, i ≤ 2 * a.length → j ≤ 2 * b.length → 2 * a.length + 2 * b.length ≤ n + i + j → ∀ m, n ≤ m → chg a b m i j = chg a b n i j := by
  intro n
  induction n with
  | zero => intro i j hi hj hn m _; rw [chg_done (by omega) (by omega), chg_done (by omega) (by omega)]
  | succ n ih =>
    intro i j hi hj hn m hm
    obtain ⟨m, rfl⟩ : ∃ m', m = m' + 1 := ⟨m - 1, by omega⟩
    unfold chg
    split
    · rename_i h
      obtain ⟨g1, g2, g3, _⟩ := step_le ha hb hi hj h
      rw [ih g1 g2 (by omega) m (by omega)]
    · rfl

/-- The days that are yielded, and what is yielded with them. -/
theorem chg_mem {a b : L} (ha : IsSet a) (hb : IsSet b) (n : Nat) : ∀ {i j : Nat} {D : Int} {s : St}, Inv (fun x y => x && !y) a b i j D s → 2 * a.length + 2 * b.length ≤ n + i + j →
    (∀ y ∈ chg a b n i j, memB a y.1 = y.2.1 ∧ memB b y.1 = y.2.2) := by
  induction n with
  | zero => intro i j D s h hn y hy; simp [chg] at hy
  | succ n ih =>
    intro i j D s h hn y hy
    unfold chg at hy
    split at hy
    · rename_i hm
      obtain ⟨_, h'⟩ := h.step ha hb hm
      obtain ⟨g1, g2, g3, _⟩ := step_le ha hb h.hi h.hj hm
      rcases List.mem_cons.1 hy with rfl | hy
      · exact ⟨memB_odd ha g1 h'.pi h'.qi, memB_odd hb g2 h'.pj h'.qj⟩
      · exact ih h' (by omega) y hy
    · simp at hy

/-- A within b: no day is yielded with a alone. -/
theorem within_iff {a b : L} (ha : IsSet a) (hb : IsSet b) : (∀ d, Mem a d → Mem b d) ↔ ∀ y ∈ chgs a b, (y.2.1 && !y.2.2) = false := by
  have hst := Inv.start (fun x y => x && !y) rfl ha hb
  constructor
  · intro h y hy
    obtain ⟨e1, e2⟩ := chg_mem ha hb _ hst (by omega) y hy
    rw [← e1, ← e2]
    have := h y.1
    rw [← memB_iff, ← memB_iff] at this
    cases h1 : memB a y.1 <;> simp_all
  · intro h
    have hc := comb_spec (fun x y => x && !y) rfl ha hb
    have hne : comb (fun x y => x && !y) a b = [] := by
      have : ∀ (ys : List (Int × Bool × Bool)), (∀ y ∈ ys, (y.2.1 && !y.2.2) = false) → (ys.foldl (stepC (fun x y => x && !y)) ⟨[], 0, false⟩) = ⟨[], 0, false⟩ := by
        intro ys
        induction ys with
        | nil => intro _; rfl
        | cons y t ih =>
          intro hy
          have e : stepC (fun x y => x && !y) ⟨[], 0, false⟩ y = ⟨[], 0, false⟩ := by
            have := hy y (by simp)
            simp only [stepC, this]
            simp
          rw [List.foldl_cons, e]
          exact ih (fun z hz => hy z (by simp [hz]))
      unfold comb run
      rw [this _ h]
    intro d hd
    have := (hc.2 d)
    rw [hne] at this
    have hf : ¬ ((memB a d && !memB b d) = true) := fun e => mem_nil d (this.2 e)
    rw [← memB_iff] at hd ⊢
    cases hb' : memB b d
    · simp [hd, hb'] at hf
    · rfl

end Sp
end Go.Proofs.YtanlaejdibikiaaGreat
