/-
The same plain mathematics in base 10: digits of a number.
-/
namespace Wt

/-- The number that limbs make, the least significant one first. -/
def val : List Nat → Nat
  | [] => 0
  | x :: l => x + 10 * val l

/-- The limbs of a number, without leading zeros. -/
def dig (n : Nat) : List Nat := if h : n = 0 then [] else (n % 10) :: dig (n / 10)
termination_by n
decreasing_by omega

/-- All limbs are less than 10. -/
def Lm (l : List Nat) : Prop := ∀ x ∈ l, x < 10

@[simp] theorem val_nil : val [] = 0 := rfl
theorem val_cons (x : Nat) (l : List Nat) : val (x :: l) = x + 10 * val l := rfl
theorem dig_zero : dig 0 = [] := by rw [dig]; simp
theorem dig_pos {n : Nat} (h : n ≠ 0) : dig n = (n % 10) :: dig (n / 10) := by rw [dig]; simp [h]

theorem Lm.nil : Lm [] := fun x h => by simp at h
theorem Lm.cons {x : Nat} {l : List Nat} (h : x < 10) (hl : Lm l) : Lm (x :: l) := fun y hy => by
  rcases List.mem_cons.1 hy with rfl | hy
  · exact h
  · exact hl y hy
theorem Lm.head {x : Nat} {l : List Nat} (h : Lm (x :: l)) : x < 10 := h x (by simp)
theorem Lm.tail {x : Nat} {l : List Nat} (h : Lm (x :: l)) : Lm l := fun y hy => h y (by simp [hy])
theorem Lm.append {a b : List Nat} (ha : Lm a) (hb : Lm b) : Lm (a ++ b) := fun y hy => by
  rcases List.mem_append.1 hy with hy | hy
  · exact ha y hy
  · exact hb y hy
theorem Lm.take {l : List Nat} (h : Lm l) (k : Nat) : Lm (l.take k) := fun y hy => h y (List.mem_of_mem_take hy)
theorem Lm.drop {l : List Nat} (h : Lm l) (k : Nat) : Lm (l.drop k) := fun y hy => h y (List.mem_of_mem_drop hy)
theorem Lm.getD {l : List Nat} (h : Lm l) (i : Nat) : l[i]?.getD 0 < 10 := by
  cases hi : l[i]? with
  | none => simp
  | some v => simpa using h v (List.mem_of_getElem? hi)
theorem Lm.set {l : List Nat} (h : Lm l) (i : Nat) {x : Nat} (hx : x < 10) : Lm (l.set i x) := fun y hy => by
  rcases List.mem_or_eq_of_mem_set hy with hy | rfl
  · exact h y hy
  · exact hx

theorem val_append (a b : List Nat) : val (a ++ b) = val a + 10 ^ a.length * val b := by
  induction a with
  | nil => simp
  | cons x a ih =>
    simp only [List.cons_append, val_cons, ih, List.length_cons, Nat.pow_succ, Nat.mul_add]
    have : 10 * (10 ^ a.length * val b) = 10 ^ a.length * 10 * val b := by
      rw [← Nat.mul_assoc, Nat.mul_comm 10]
    omega

theorem val_lt {l : List Nat} (h : Lm l) : val l < 10 ^ l.length := by
  induction l with
  | nil => simp
  | cons x l ih =>
    have := ih h.tail
    have := h.head
    simp only [val_cons, List.length_cons, Nat.pow_succ]
    omega

theorem val_dig (n : Nat) : val (dig n) = n := by
  induction n using Nat.strongRecOn with
  | ind n ih =>
    by_cases h : n = 0
    · subst h; rw [dig_zero]; rfl
    · rw [dig_pos h, val_cons, ih _ (by omega)]; omega

theorem dig_Lm (n : Nat) : Lm (dig n) := by
  induction n using Nat.strongRecOn with
  | ind n ih =>
    by_cases h : n = 0
    · subst h; rw [dig_zero]; exact .nil
    · rw [dig_pos h]; exact .cons (by omega) (ih _ (by omega))

theorem dig_nil_iff (n : Nat) : dig n = [] ↔ n = 0 := by
  constructor
  · intro h; have := val_dig n; rw [h] at this; simpa using this.symm
  · rintro rfl; exact dig_zero

theorem dig_last (n : Nat) (h : dig n ≠ []) : (dig n).getLast h ≠ 0 := by
  induction n using Nat.strongRecOn with
  | ind n ih =>
    have h0 : n ≠ 0 := fun e => h (by rw [e, dig_zero])
    by_cases h1 : n / 10 = 0
    · have e : dig n = [n % 10] := by rw [dig_pos h0, h1, dig_zero]
      simp only [e, List.getLast_singleton]; omega
    · have hne : dig (n / 10) ≠ [] := fun e => h1 ((dig_nil_iff _).1 e)
      have := ih (n / 10) (by omega) hne
      simp only [dig_pos h0, List.getLast_cons hne]
      exact this

/-- Limbs without a leading zero are the limbs of their value. -/
theorem dig_val {l : List Nat} (h : Lm l) (hl : ∀ hne : l ≠ [], l.getLast hne ≠ 0) : dig (val l) = l := by
  induction l with
  | nil => simp [dig_zero]
  | cons x l ih =>
    have hx := h.head
    have hv : val (x :: l) ≠ 0 := by
      rw [val_cons]
      cases l with
      | nil => have := hl (by simp); simp at this; simp; omega
      | cons y t =>
        have h2 : dig (val (y :: t)) = y :: t := ih h.tail (fun hne => by have := hl (by simp); rwa [List.getLast_cons hne] at this)
        have h3 : val (y :: t) ≠ 0 := fun e => by rw [e, dig_zero] at h2; cases h2
        omega
    rw [dig_pos hv, val_cons]
    have e1 : (x + 10 * val l) % 10 = x := by omega
    have e2 : (x + 10 * val l) / 10 = val l := by omega
    rw [e1, e2, ih h.tail]
    intro hne
    have := hl (by simp)
    rwa [List.getLast_cons hne] at this

theorem val_snoc_zero (l : List Nat) : val (l ++ [0]) = val l := by rw [val_append]; simp [val_cons]
theorem val_replicate_zero (n : Nat) : val (List.replicate n 0) = 0 := by
  induction n with
  | zero => rfl
  | succ n ih => rw [List.replicate_succ, val_cons, ih]

theorem dig_snoc {l : List Nat} {x : Nat} (h : Lm l) (hx : x < 10) (h0 : x ≠ 0) : dig (val (l ++ [x])) = l ++ [x] :=
  dig_val (h.append (.cons hx .nil)) (fun hne => by simpa using h0)

/-- The number of limbs of a number. -/
theorem length_dig_le (n k : Nat) : (dig n).length ≤ k ↔ n < 10 ^ k := by
  induction k generalizing n with
  | zero =>
    simp only [Nat.le_zero, List.length_eq_zero_iff, dig_nil_iff]; omega
  | succ k ih =>
    by_cases h : n = 0
    · subst h; rw [dig_zero]; simp; exact Nat.pos_of_ne_zero (by simp)
    · rw [dig_pos h, List.length_cons, Nat.succ_le_succ_iff, ih, Nat.pow_succ]
      constructor
      · intro h; omega
      · intro h; exact Nat.div_lt_of_lt_mul (by rw [Nat.mul_comm]; exact h)

theorem lt_pow_length (n : Nat) : n < 10 ^ (dig n).length := (length_dig_le n _).1 (Nat.le_refl _)
theorem pow_le_of_length {n k : Nat} (h : k < (dig n).length) : 10 ^ k ≤ n := by
  by_cases hn : n < 10 ^ k
  · have := (length_dig_le n k).2 hn; omega
  · omega

theorem length_dig_mono {m n : Nat} (h : m ≤ n) : (dig m).length ≤ (dig n).length := by
  rw [length_dig_le]; have := lt_pow_length n; omega

theorem val_take_drop (l : List Nat) (i : Nat) : val l = val (l.take i) + 10 ^ (min i l.length) * val (l.drop i) := by
  rw [← List.length_take, ← val_append, List.take_append_drop]

theorem getD_lt_length {l : List Nat} {i : Nat} (h : i < l.length) : l[i]?.getD 0 = l[i] := by simp [h]

theorem val_take_succ {l : List Nat} {k : Nat} (h : k < l.length) : val (l.take (k + 1)) = val (l.take k) + 10 ^ k * (l[k]?.getD 0) := by
  rw [List.take_succ_eq_append_getElem h, val_append, List.length_take, Nat.min_eq_left (by omega), getD_lt_length h]
  simp [val_cons]

theorem val_drop_succ {l : List Nat} {k : Nat} (h : k < l.length) : val (l.drop k) = l[k]?.getD 0 + 10 * val (l.drop (k + 1)) := by
  rw [List.drop_eq_getElem_cons h, val_cons, getD_lt_length h]

theorem dig_getD (n i : Nat) : (dig n)[i]?.getD 0 = n / 10 ^ i % 10 := by
  induction i generalizing n with
  | zero =>
    by_cases h : n = 0
    · subst h; rw [dig_zero]; simp
    · rw [dig_pos h]; simp
  | succ i ih =>
    by_cases h : n = 0
    · subst h; rw [dig_zero]; simp
    · rw [dig_pos h, List.getElem?_cons_succ, ih, Nat.pow_succ, Nat.mul_comm, Nat.div_div_eq_div_mul]

theorem val_inj {a b : List Nat} (ha : Lm a) (hb : Lm b) (hl : a.length = b.length) (hv : val a = val b) : a = b := by
  induction a generalizing b with
  | nil => cases b with
    | nil => rfl
    | cons => simp at hl
  | cons x a ih => cases b with
    | nil => simp at hl
    | cons y b =>
      have h1 := ha.head; have h2 := hb.head
      simp only [val_cons] at hv
      have e : x = y := by omega
      subst e
      rw [ih ha.tail hb.tail (by simpa using hl) (by omega)]

/-- The list of n limbs of a number (the rest is cut off). -/
def digN : Nat → Nat → List Nat
  | 0, _ => []
  | n + 1, v => (v % 10) :: digN n (v / 10)
theorem digN_length (n v : Nat) : (digN n v).length = n := by
  induction n generalizing v with
  | zero => rfl
  | succ n ih => simp [digN, ih]
theorem digN_Lm (n v : Nat) : Lm (digN n v) := by
  induction n generalizing v with
  | zero => exact .nil
  | succ n ih => exact .cons (by omega) (ih _)
theorem val_digN (n v : Nat) : val (digN n v) = v % 10 ^ n := by
  induction n generalizing v with
  | zero => simp [digN]; omega
  | succ n ih => simp only [digN, val_cons, ih, Nat.pow_succ]; rw [Nat.mul_comm (10 ^ n) 10, Nat.mod_mul]

theorem val_pos_of_dig {n : Nat} (h : n ≠ 0) : 1 ≤ (dig n).length := by rw [dig_pos h]; simp

theorem val_zero_iff {l : List Nat} : val l = 0 ↔ ∀ x ∈ l, x = 0 := by
  induction l with
  | nil => simp
  | cons x l ih =>
    simp only [val_cons, List.mem_cons, forall_eq_or_imp, ← ih]
    omega

theorem val_set {l : List Nat} {i x : Nat} (h : i < l.length) (h0 : l[i]?.getD 0 = 0) : val (l.set i x) = val l + 10 ^ i * x := by
  induction l generalizing i with
  | nil => simp at h
  | cons y l ih =>
    cases i with
    | zero => simp at h0; subst h0; simp [val_cons]; omega
    | succ i =>
      simp only [List.set_cons_succ, val_cons, ih (by simpa using h) (by simpa using h0), Nat.pow_succ]
      have : 10 * (10 ^ i * x) = 10 ^ i * 10 * x := by rw [← Nat.mul_assoc, Nat.mul_comm 10]
      omega

theorem val_high_zero {l : List Nat} (k : Nat) (h : ∀ j, k ≤ j → j < l.length → l[j]?.getD 0 = 0) : val l = val (l.take k) := by
  rw [val_take_drop l k]
  have : val (l.drop k) = 0 := val_zero_iff.2 fun x hx => by
    obtain ⟨i, hi, rfl⟩ := List.mem_iff_getElem.1 hx
    simp at hi
    have := h (k + i) (by omega) (by omega)
    rw [List.getElem_drop]
    rw [getD_lt_length (by omega)] at this
    exact this
  rw [this]; simp

theorem dig_of_top {l : List Nat} (hl : Lm l) {m : Nat} (hm : m < l.length) (h0 : l[m]?.getD 0 ≠ 0) (h : ∀ j, m < j → j < l.length → l[j]?.getD 0 = 0) : dig (val l) = l.take (m + 1) := by
  rw [val_high_zero (m + 1) (fun j h1 h2 => h j (by omega) h2), List.take_succ_eq_append_getElem hm]
  rw [getD_lt_length hm] at h0
  exact dig_snoc (hl.take m) (hl _ (List.getElem_mem hm)) h0

theorem dig_of_zero {l : List Nat} (h : ∀ j, j < l.length → l[j]?.getD 0 = 0) : dig (val l) = [] := by
  rw [val_high_zero 0 (fun j _ h2 => h j h2)]; simp [dig_zero]

/-- Limbs are less than five digits each. -/
theorem len_of_limbs {n d k : Nat} (h : 10 ^ d ≤ n) (hn : n < 65536 ^ k) : d ≤ 5 * k := by
  have h1 : 65536 ^ k ≤ (10 ^ 5) ^ k := Nat.pow_le_pow_left (by decide) k
  rw [← Nat.pow_mul] at h1
  have h2 : 10 ^ d < 10 ^ (5 * k) := by omega
  exact Nat.le_of_lt ((Nat.pow_lt_pow_iff_right (by decide)).1 h2)

theorem step_val (ds : List Nat) (g m p : Nat) : val (ds ++ [g % 10]) + 10 ^ (ds ++ [g % 10]).length * (g / 10 + p * m) = val ds + 10 ^ ds.length * (g + 10 * p * m) := by
  rw [val_append, List.length_append, List.length_cons, List.length_nil, Nat.zero_add, Nat.pow_succ, Nat.mul_assoc (10 ^ ds.length) 10]
  have e : g + 10 * p * m = g % 10 + 10 * (g / 10 + p * m) := by
    rw [Nat.mul_add, ← Nat.mul_assoc]; omega
  have e2 : val [g % 10] = g % 10 := by simp [val_cons]
  rw [e, e2, Nat.mul_add (10 ^ ds.length) (g % 10), Nat.add_assoc]

end Wt
