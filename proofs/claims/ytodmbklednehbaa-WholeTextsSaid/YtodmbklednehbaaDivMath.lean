/-
Plain mathematics of long division: one step, and the whole.
-/
import Derived.Test.YtodmbklednehbaaDownQ
namespace Go.Proofs.Ytodmbklednehbaa
open Go.RowKit Wh

/-- What is left and what has been taken, when the places from k on have been done. -/
def DivInv (A V k : Nat) (R Q : List Nat) : Prop := val R + V * val Q = A ∧ val R < V * 65536 ^ k ∧ ∀ j, j < k → Q[j]?.getD 0 = 0

theorem val_take_of_lt {l : List Nat} {n : Nat} (h : val l < 65536 ^ n) : val (l.take n) = val l ∧ val (l.drop n) = 0 := by
  have e := val_take_drop l n
  by_cases hn : n ≤ l.length
  · rw [Nat.min_eq_left hn] at e
    have : val (l.drop n) = 0 := by
      apply Nat.eq_zero_of_not_pos
      intro hp
      have : 65536 ^ n * 1 ≤ 65536 ^ n * val (l.drop n) := Nat.mul_le_mul_left _ hp
      omega
    rw [this] at e
    exact ⟨by omega, this⟩
  · rw [List.take_of_length_le (by omega), List.drop_eq_nil_of_le (by omega)]
    exact ⟨rfl, rfl⟩

theorem div_step {A V k L : Nat} {R Q P' : List Nat} (hR : Lm R) (hV0 : 0 < V) (hV : V < 65536 ^ L) (hfit : k + (L + 1) ≤ R.length) (hQ : k < Q.length) (hinv : DivInv A V (k + 1) R Q) (hPl : P'.length = L + 1)
    (hP : val P' = val ((R.drop k).take (L + 1)) - min (val ((R.drop k).take (L + 1)) / V) 65535 * V) :
    DivInv A V k (splice R k P') (Q.set k (min (val ((R.drop k).take (L + 1)) / V) 65535)) := by
  obtain ⟨h1, h2, h3⟩ := hinv
  have e := val_take_drop R k
  rw [Nat.min_eq_left (by omega)] at e
  have ht := val_lt (hR.take k)
  rw [List.length_take, Nat.min_eq_left (by omega)] at ht
  have hp0 : 0 < 65536 ^ k := Nat.pos_of_ne_zero (by simp)
  have hd : val (R.drop k) < V * 65536 := by
    apply Nat.lt_of_mul_lt_mul_left (a := 65536 ^ k)
    have : 65536 ^ k * (V * 65536) = V * 65536 ^ (k + 1) := by rw [Nat.pow_succ, Nat.mul_left_comm]
    omega
  have hps : (65536 : Nat) ^ (L + 1) = 65536 ^ L * 65536 := Nat.pow_succ _ _
  have hd2 : val (R.drop k) < 65536 ^ (L + 1) := by omega
  obtain ⟨t1, t2⟩ := val_take_of_lt hd2
  rw [t1] at hP ⊢
  have hg : val (R.drop k) / V < 65536 := by rw [Nat.div_lt_iff_lt_mul hV0, Nat.mul_comm]; exact hd
  rw [Nat.min_eq_left (by omega)] at hP ⊢
  generalize hD : val (R.drop k) = D at *
  have hm : D - D / V * V = D % V := by have := Nat.div_add_mod D V; rw [Nat.mul_comm] at this; omega
  rw [hm] at hP
  have hmV := Nat.mod_lt D hV0
  have hs : val (splice R k P') = val (R.take k) + 65536 ^ k * (D % V) := by
    unfold splice
    rw [val_append, val_append, hP]
    have e2 : R.drop (k + P'.length) = (R.drop k).drop (L + 1) := by rw [List.drop_drop, hPl]
    rw [e2, t2, List.length_take, Nat.min_eq_left (by omega)]
    simp
  have hdm := Nat.div_add_mod D V
  refine ⟨?_, ?_, fun j hj => ?_⟩
  · rw [hs, val_set hQ (h3 k (by omega)), ← h1, e, Nat.mul_add]
    have : 65536 ^ k * D = 65536 ^ k * (V * (D / V)) + 65536 ^ k * (D % V) := by rw [← Nat.mul_add, hdm]
    have e4 : V * (65536 ^ k * (D / V)) = 65536 ^ k * (V * (D / V)) := Nat.mul_left_comm _ _ _
    omega
  · rw [hs]
    have : 65536 ^ k * (D % V + 1) ≤ 65536 ^ k * V := Nat.mul_le_mul_left _ hmV
    rw [Nat.mul_add, Nat.mul_one] at this
    rw [Nat.mul_comm V]
    omega
  · rw [List.getElem?_set_ne (by omega)]; exact h3 j (by omega)

theorem div_end {A V : Nat} {R Q : List Nat} (hV0 : 0 < V) (h : DivInv A V 0 R Q) : val Q = A / V ∧ val R = A % V := by
  obtain ⟨h1, h2, _⟩ := h
  rw [Nat.pow_zero, Nat.mul_one] at h2
  rw [← h1]
  constructor
  · rw [Nat.add_mul_div_left _ _ hV0, Nat.div_eq_of_lt h2, Nat.zero_add]
  · rw [Nat.add_mul_mod_self_left, Nat.mod_eq_of_lt h2]

theorem mod_mul_div {m n f : Nat} (hf : 0 < f) : (m * f) % (n * f) / f = m % n ∧ (m * f) / (n * f) = m / n := by
  constructor
  · rw [Nat.mul_mod_mul_right, Nat.mul_div_cancel _ hf]
  · rw [Nat.mul_div_mul_right _ _ hf]

/-- The scaled divisor has as many limbs as the divisor, and a great first one. -/
theorem scaled {n j L : Nat} (hL : (dig n).length = L + 1) (h1 : (dig n)[L]?.getD 0 * 2 ^ j < 65536) (h2 : 32768 ≤ (dig n)[L]?.getD 0 * 2 ^ j) :
    n * 2 ^ j < 65536 ^ (L + 1) ∧ (dig (n * 2 ^ j)).length = L + 1 := by
  have hv := val_take_drop (dig n) L
  rw [val_dig, hL, Nat.min_eq_left (by omega), List.drop_eq_getElem_cons (by omega), val_cons, ← getD_lt_length (by omega), List.drop_eq_nil_of_le (by omega)] at hv
  simp only [val_nil, Nat.mul_zero, Nat.add_zero] at hv
  have ht := val_lt ((dig_Lm n).take L)
  rw [List.length_take, hL, Nat.min_eq_left (by omega)] at ht
  generalize (dig n)[L]?.getD 0 = t at *
  have hj : j < 17 := by
    apply Nat.lt_of_not_le
    intro hge
    have : 2 ^ 17 ≤ 2 ^ j := Nat.pow_le_pow_right (by omega) hge
    have : 1 ≤ t := by
      apply Nat.pos_of_ne_zero
      rintro rfl
      omega
    have : 1 * 2 ^ j ≤ t * 2 ^ j := Nat.mul_le_mul_right _ this
    omega
  have hq : 2 ^ j * 2 ^ (17 - j) = 2 * 65536 := by rw [← Nat.pow_add, show j + (17 - j) = 17 from by omega]
  have hup : (t + 1) * 2 ^ j ≤ 65536 := by
    by_cases hj16 : j ≤ 16
    · have hq2 : 2 ^ j * 2 ^ (16 - j) = 65536 := by rw [← Nat.pow_add, show j + (16 - j) = 16 from by omega]
      have hlt : t < 2 ^ (16 - j) := by
        apply Nat.lt_of_mul_lt_mul_left (a := 2 ^ j)
        rw [hq2, Nat.mul_comm]; exact h1
      have := Nat.mul_le_mul_right (2 ^ j) hlt
      rw [Nat.mul_comm (2 ^ (16 - j)), hq2] at this
      exact this
    · omega
  have hlt : n < 65536 ^ L * (t + 1) := by rw [Nat.mul_add]; omega
  have hlow : 65536 ^ L * t ≤ n := by omega
  have hub : n * 2 ^ j < 65536 ^ (L + 1) := by
    have a1 := Nat.mul_lt_mul_of_pos_right hlt (Nat.pos_of_ne_zero (show 2 ^ j ≠ 0 by simp))
    rw [Nat.mul_assoc] at a1
    have a2 := Nat.mul_le_mul_left (65536 ^ L) hup
    rw [Nat.pow_succ]
    omega
  refine ⟨hub, Nat.le_antisymm ((length_dig_le _ _).2 hub) ?_⟩
  apply Nat.lt_of_not_le
  intro hle
  have a1 := (length_dig_le _ _).1 hle
  have a2 := Nat.mul_le_mul_right (2 ^ j) hlow
  rw [Nat.mul_assoc] at a2
  have a3 := Nat.mul_le_mul_left (65536 ^ L) (show 1 ≤ t * 2 ^ j by omega)
  omega

end Go.Proofs.Ytodmbklednehbaa
