/-
Months later, in plain integers: what the laws ask.
-/
import Derived.Test.YtmjmpdbkijhkiaaDoorCLits
namespace Cal

theorem dom_mono {a b : Int} (h : a ≤ b) (e : mon a = mon b) : dom a ≤ dom b := by unfold dom; rw [e]; omega

theorem later_le {a b n : Int} (h0 : 0 ≤ a) (h : a ≤ b) (h1 : b < 65536) (hn : -mon a ≤ n) (hm : n < 2154 - mon b) : laterN a n ≤ laterN b n := by
  have hmm := mon_mono h0 h h1
  obtain ⟨p, p', _, _⟩ := mon_spec h0 (show a < 65536 by omega)
  have l1 := laterN_bd h0 (show a < 65536 by omega) hn (by omega)
  have l2 := laterN_bd (show 0 ≤ b by omega) h1 (n := n) (by omega) hm
  rcases Int.lt_or_eq_of_le hmm with hh | hh
  · have := start_lt (a := mon a + n) (b := mon b + n) (by omega) (by omega)
    omega
  · have hd := dom_mono h hh
    unfold laterN
    rw [← hh]
    omega

theorem later_at {a n : Int} (h0 : 0 ≤ a) (h1 : a < 65536) (h : laterB a n = true) : mon (laterN a n) = mon a + n ∧ dom (laterN a n) = min (dom a) (mlen (mon a + n)) := by
  have h' := of_decide_eq_true h
  obtain ⟨p, p', _, _⟩ := mon_spec h0 h1
  have l := laterN_bd h0 h1 h'.1 h'.2.1
  have e := mon_uniq l.1 h'.2.2 (n := mon a + n) (by omega) l.2.2.1 l.2.2.2
  refine ⟨e, ?_⟩
  unfold dom
  rw [e]
  unfold laterN dom
  omega

theorem later_far {a n : Int} (h0 : 0 ≤ a) (h1 : a < 65536) (h : laterB a n = false) : n < -mon a ∨ 2153 - mon a < n ∨ (n = 2153 - mon a ∧ 6 < dom a) := by
  have h' := of_decide_eq_false h
  by_cases c1 : n < -mon a
  · exact .inl c1
  by_cases c2 : 2153 - mon a < n
  · exact .inr (.inl c2)
  have hN : 65536 ≤ laterN a n := Int.not_lt.1 fun hh => h' ⟨by omega, by omega, hh⟩
  obtain ⟨p, p', _, _⟩ := mon_spec h0 h1
  by_cases c3 : n = 2153 - mon a
  · refine .inr (.inr ⟨c3, ?_⟩)
    unfold laterN at hN
    rw [show mon a + n = 2153 by omega, start_2153] at hN
    omega
  · have l := laterN_bd h0 h1 (n := n) (by omega) (by omega)
    have := start_lt (a := mon a + n) (b := 2153) (by omega) (by omega)
    rw [start_2153] at this
    omega

theorem whole_later {a n : Int} (h0 : 0 ≤ a) (h1 : a < 65536) (h : laterB a n = true) : whole a (laterN a n) = n := by
  have e := later_at h0 h1 h
  unfold whole
  rw [e.1, show mon a + n - mon a = n by omega, if_pos ⟨h, Int.le_refl _⟩]

theorem whole_self {a : Int} (h0 : 0 ≤ a) (h1 : a < 65536) : whole a a = 0 := by
  obtain ⟨p, p', _, _⟩ := mon_spec h0 h1
  have hl : laterB a 0 = true := decide_eq_true ⟨by omega, by omega, by rw [laterN_zero h0 h1]; exact h1⟩
  have := whole_later h0 h1 hl
  rwa [laterN_zero h0 h1] at this

theorem whole_before {a n : Int} (h0 : 0 ≤ a) (h1 : a < 65536) (hn : 1 ≤ n) (h : laterB a n = true) : a < laterN a n ∧ whole a (laterN a n - 1) = n - 1 := by
  have h' := of_decide_eq_true h
  obtain ⟨p, p', _, _⟩ := mon_spec h0 h1
  have up := later_mono h0 h1 (n := 0) (m := n) (by omega) (by omega) h'.2.1
  rw [laterN_zero h0 h1] at up
  refine ⟨up, ?_⟩
  obtain ⟨w1, w2, w3, w4, w5, w6⟩ := whole_spec h0 (show a ≤ laterN a n - 1 by omega) (show laterN a n - 1 < 65536 by omega)
  generalize whole a (laterN a n - 1) = m at *
  have w3' := of_decide_eq_true w3
  have lt : m < n := by
    apply Int.not_le.1
    intro hh
    rcases Int.lt_or_eq_of_le hh with g | g
    · have := later_mono h0 h1 h'.1 g w3'.2.1; omega
    · rw [g] at w4; omega
  apply Int.le_antisymm (by omega)
  apply Int.not_lt.1
  intro hh
  have g := later_mono h0 h1 (n := m + 1) (m := n) (by omega) (by omega) h'.2.1
  have := w6 (decide_eq_true ⟨by omega, by omega, by omega⟩)
  omega

end Cal
