/-
Numbers in texts: lists of bytes.
-/
namespace CalT

def isD (c : UInt8) : Bool := decide (48 ≤ c.toNat ∧ c.toNat ≤ 57)
def val (l : List UInt8) : Int := l.foldl (fun v c => v * 10 + ((c.toNat : Int) - 48)) 0
def cnt (l : List UInt8) : Nat := (l.takeWhile isD).length
def num (l : List UInt8) : Int := val (l.takeWhile isD)
def rest (l : List UInt8) : List UInt8 := l.drop (cnt l + 1)
def lst (l : List UInt8) : Nat → List UInt8
  | 0 => l
  | j + 1 => rest (lst l j)

theorem val_snoc (l : List UInt8) (c : UInt8) : val (l ++ [c]) = val l * 10 + ((c.toNat : Int) - 48) := by simp [val, List.foldl_append]

theorem fold_bd (l : List UInt8) : ∀ (v : Int) (a : Nat), 0 ≤ v → v < 10 ^ a → (∀ c ∈ l, isD c = true) → 0 ≤ l.foldl (fun v c => v * 10 + ((c.toNat : Int) - 48)) v ∧ l.foldl (fun v c => v * 10 + ((c.toNat : Int) - 48)) v < 10 ^ (a + l.length) := by
  induction l with
  | nil => intro v a h0 h1 _; exact ⟨h0, h1⟩
  | cons c l ih =>
    intro v a h0 h1 h
    have hc := of_decide_eq_true (h c (by simp))
    have := ih (v * 10 + ((c.toNat : Int) - 48)) (a + 1) (by omega) (by rw [Int.pow_succ]; omega) (fun x hx => h x (by simp [hx]))
    rw [List.foldl_cons, List.length_cons, show a + (l.length + 1) = a + 1 + l.length by omega]
    exact this

theorem val_bd (l : List UInt8) (h : ∀ c ∈ l, isD c = true) : 0 ≤ val l ∧ val l < 10 ^ l.length := by
  have := fold_bd l 0 0 (by omega) (by decide) h
  rwa [Nat.zero_add] at this

theorem pow_le {k : Nat} (h : k ≤ 10) : (10 : Int) ^ k ≤ 10000000000 := by
  rcases (show k = 0 ∨ k = 1 ∨ k = 2 ∨ k = 3 ∨ k = 4 ∨ k = 5 ∨ k = 6 ∨ k = 7 ∨ k = 8 ∨ k = 9 ∨ k = 10 by omega) with rfl | rfl | rfl | rfl | rfl | rfl | rfl | rfl | rfl | rfl | rfl <;> decide

theorem val_take_bd (l : List UInt8) (k : Nat) (hk : k ≤ 10) (h : ∀ j (hj : j < l.length), j < k → isD l[j] = true) : 0 ≤ val (l.take k) ∧ val (l.take k) < 10000000000 := by
  have hall : ∀ c ∈ l.take k, isD c = true := fun c hc => by
    obtain ⟨j, hj, rfl⟩ := List.mem_iff_getElem.1 hc
    have hj' := List.length_take_le k l
    rw [List.length_take] at hj
    rw [List.getElem_take]
    exact h j (by omega) (by omega)
  have := val_bd _ hall
  have h2 := pow_le (k := (l.take k).length) (by rw [List.length_take]; omega)
  omega

theorem takeWhile_eq (l : List UInt8) (k : Nat) (hk : k ≤ l.length) (h : ∀ j (hj : j < l.length), j < k → isD l[j] = true) (he : ∀ h : k < l.length, isD l[k] = false) : l.takeWhile isD = l.take k := by
  induction l generalizing k with
  | nil => simp
  | cons a l ih =>
    cases k with
    | zero =>
      have := he (by simp)
      simp at this
      simp [this]
    | succ k =>
      have ha : isD a = true := h 0 (by simp) (by omega)
      rw [List.takeWhile_cons, ha]
      simp only [if_true, List.take_succ_cons, List.cons.injEq, true_and]
      refine ih k (by simpa using hk) (fun j hj hjk => ?_) (fun hh => ?_)
      · have := h (j + 1) (by simpa using hj) (by omega)
        simpa using this
      · have := he (by simpa using hh)
        simpa using this

theorem cnt_eq (l : List UInt8) (k : Nat) (hk : k ≤ l.length) (h : ∀ j (hj : j < l.length), j < k → isD l[j] = true) (he : ∀ h : k < l.length, isD l[k] = false) : cnt l = k ∧ num l = val (l.take k) := by
  have := takeWhile_eq l k hk h he
  unfold cnt num
  rw [this, List.length_take]
  exact ⟨by omega, rfl⟩

theorem num_bd (l : List UInt8) (h : l.length ≤ 10) : 0 ≤ num l ∧ num l < 10000000000 := by
  unfold num
  have h1 := val_bd (l.takeWhile isD) (fun c hc => by
    have := List.all_takeWhile (l := l) (p := isD)
    exact List.all_eq_true.1 this c hc)
  have hl : (l.takeWhile isD).length ≤ l.length := (List.takeWhile_sublist _).length_le
  have h2 := pow_le (k := (l.takeWhile isD).length) (by omega)
  omega

theorem rest_len (l : List UInt8) : (rest l).length ≤ l.length := by unfold rest; simp
theorem lst_len (l : List UInt8) (j : Nat) : (lst l j).length ≤ l.length := by
  induction j with
  | zero => exact Nat.le_refl _
  | succ j ih => exact Nat.le_trans (rest_len _) ih

end CalT
