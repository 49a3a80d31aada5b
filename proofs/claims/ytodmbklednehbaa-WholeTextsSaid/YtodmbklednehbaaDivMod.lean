/-
'DivMod', whole.
-/
import Derived.Test.YtodmbklednehbaaDm
namespace Go.Proofs.Ytodmbklednehbaa
open Go.RowKit Wh

/-- q and r are the quotient, rounded down, and the remainder of a and b. -/
def DivRel (a b q r : Int) : Prop := a = q * b + r ∧ (0 ≤ r ∧ r < b ∨ b < r ∧ r ≤ 0) ∧ q.natAbs ≤ a.natAbs ∧ r.natAbs ≤ b.natAbs

theorem DivRel.uniq' {a b q r q' r' : Int} (h : DivRel a b q r) (h' : a = q' * b + r' ∧ (0 ≤ r' ∧ r' < b ∨ b < r' ∧ r' ≤ 0)) : q = q' ∧ r = r' := by
  obtain ⟨h1, h2, -⟩ := h
  obtain ⟨h3, h4⟩ := h'
  have e : (q - q') * b = r' - r := by rw [Int.sub_mul]; omega
  have e0 : q = q' := by
    rcases Int.lt_trichotomy q q' with hlt | heq | hgt
    · exfalso
      rcases h2 with h2 | h2
      · have hb : 0 < b := by omega
        have : (q - q') * b ≤ (-1) * b := Int.mul_le_mul_of_nonneg_right (by omega) (by omega)
        rcases h4 with h4 | h4 <;> omega
      · have hb : b < 0 := by omega
        have : (-1) * b ≤ (q - q') * b := Int.mul_le_mul_of_nonpos_right (by omega) (by omega)
        rcases h4 with h4 | h4 <;> omega
    · exact heq
    · exfalso
      rcases h2 with h2 | h2
      · have hb : 0 < b := by omega
        have : 1 * b ≤ (q - q') * b := Int.mul_le_mul_of_nonneg_right (by omega) (by omega)
        rcases h4 with h4 | h4 <;> omega
      · have hb : b < 0 := by omega
        have : (q - q') * b ≤ 1 * b := Int.mul_le_mul_of_nonpos_right (by omega) (by omega)
        rcases h4 with h4 | h4 <;> omega
  subst e0
  refine ⟨rfl, ?_⟩
  omega

theorem not_iff_of {p q : Prop} [Decidable p] [Decidable q] (h : decide p = !decide q) : ¬ (p ↔ q) := fun e => by
  have e2 : decide p = decide q := decide_eq_decide.2 e
  rw [e2] at h
  cases hq : decide q <;> rw [hq] at h <;> cases h
theorem neg_nat_sign (Q : Nat) : (true && decide (dig Q ≠ [])) = decide (-(Q : Int) < 0) := by
  rw [Bool.eq_iff_iff]; simp only [Bool.true_and, decide_eq_true_eq, ne_eq, dig_nil_iff]; omega

theorem DivRel.uniq {a b q r q' r' : Int} (h : DivRel a b q r) (h' : DivRel a b q' r') : q = q' ∧ r = r' := h.uniq' ⟨h'.1, h'.2.1⟩

/-- The remainder with the divisor's sign. -/
def sgnR (b : Int) (R : Nat) : Int := if b < 0 then -(R : Int) else (R : Int)
theorem sgnR_abs (b : Int) (R : Nat) : (sgnR b R).natAbs = R := by unfold sgnR; split <;> omega
theorem sgnR_sign (b : Int) (R : Nat) : (decide (b < 0) && decide (dig R ≠ [])) = decide (sgnR b R < 0) := by
  rw [Bool.eq_iff_iff]
  simp only [Bool.and_eq_true, decide_eq_true_eq, ne_eq, dig_nil_iff]
  unfold sgnR
  split <;> omega

theorem dm_same (a b : Int) (hb : b ≠ 0) (h : decide (b < 0) = decide (a < 0)) : DivRel a b ((a.natAbs / b.natAbs : Nat) : Int) (sgnR b (a.natAbs % b.natAbs)) := by
  have e := congrArg (Nat.cast (R := Int)) (Nat.div_add_mod a.natAbs b.natAbs)
  have hlt := Nat.mod_lt a.natAbs (show 0 < b.natAbs by omega)
  have hq := Nat.div_le_self a.natAbs b.natAbs
  have hi := decide_eq_decide.1 h
  rw [Int.natCast_add, Int.natCast_mul, Int.mul_comm] at e
  generalize hQ : a.natAbs / b.natAbs = Q at *
  generalize hR : a.natAbs % b.natAbs = R at *
  refine ⟨?_, ?_, by omega, by rw [sgnR_abs]; omega⟩
  · unfold sgnR
    split
    · have e1 : (b.natAbs : Int) = -b := by omega
      rw [e1, Int.mul_neg] at e
      omega
    · have e1 : (b.natAbs : Int) = b := by omega
      rw [e1] at e
      omega
  · unfold sgnR; split <;> omega

theorem dm_even (a b : Int) (hb : b ≠ 0) (h : decide (b < 0) = !decide (a < 0)) (hR0 : a.natAbs % b.natAbs = 0) : DivRel a b (-((a.natAbs / b.natAbs : Nat) : Int)) 0 := by
  have e := congrArg (Nat.cast (R := Int)) (Nat.div_add_mod a.natAbs b.natAbs)
  have hq := Nat.div_le_self a.natAbs b.natAbs
  have hi : ¬ (b < 0 ↔ a < 0) := not_iff_of h
  rw [hR0, Int.natCast_add, Int.natCast_mul, Int.mul_comm] at e
  generalize hQ : a.natAbs / b.natAbs = Q at *
  refine ⟨?_, by omega, by omega, by omega⟩
  rw [Int.neg_mul]
  rcases Int.lt_or_le b 0 with hb' | hb'
  · have e1 : (b.natAbs : Int) = -b := by omega
    rw [e1, Int.mul_neg] at e
    omega
  · have e1 : (b.natAbs : Int) = b := by omega
    rw [e1] at e
    omega

theorem dm_adjust (a b : Int) (hb : b ≠ 0) (h : decide (b < 0) = !decide (a < 0)) (hR0 : a.natAbs % b.natAbs ≠ 0) : DivRel a b (-((a.natAbs / b.natAbs + 1 : Nat) : Int)) (sgnR b (b.natAbs - a.natAbs % b.natAbs)) := by
  have e := congrArg (Nat.cast (R := Int)) (Nat.div_add_mod a.natAbs b.natAbs)
  have hlt := Nat.mod_lt a.natAbs (show 0 < b.natAbs by omega)
  have hq : a.natAbs / b.natAbs + 1 ≤ a.natAbs := by
    rcases Nat.lt_or_ge b.natAbs 2 with h2 | h2
    · have : b.natAbs = 1 := by omega
      rw [this, Nat.mod_one] at hR0
      exact absurd rfl hR0
    · have h3 : a.natAbs / b.natAbs ≤ a.natAbs / 2 := Nat.div_le_div_left h2 (by omega)
      have h4 : a.natAbs ≠ 0 := fun e => hR0 (by rw [e, Nat.zero_mod])
      rcases Nat.lt_or_ge a.natAbs 2 with h5 | h5
      · have : a.natAbs / b.natAbs = 0 := Nat.div_eq_of_lt (by omega)
        omega
      · omega
  have hi : ¬ (b < 0 ↔ a < 0) := not_iff_of h
  rw [Int.natCast_add, Int.natCast_mul, Int.mul_comm] at e
  generalize hQ : a.natAbs / b.natAbs = Q at *
  generalize hR : a.natAbs % b.natAbs = R at *
  refine ⟨?_, ?_, by omega, by rw [sgnR_abs]; omega⟩
  · rw [Int.natCast_add, Int.neg_mul, Int.add_mul]
    unfold sgnR
    split
    · have e1 : (b.natAbs : Int) = -b := by omega
      rw [e1, Int.mul_neg] at e
      omega
    · have e1 : (b.natAbs : Int) = b := by omega
      rw [e1] at e
      omega
  · unfold sgnR; split <;> omega

theorem dig_pos_len {n : Nat} (h : n ≠ 0) : 0 < (dig n).length := List.length_pos_iff.2 fun e => h ((dig_nil_iff n).1 e)

theorem DivMod_any (va vb : Value) (a b : Int) (ha : (dig a.natAbs).length ≤ 1024) (hb : (dig b.natAbs).length ≤ 1024) (hb0 : b ≠ 0) (w : World) (h' : Num w va a) (g' : Num w vb b) :
    Calls Try.prog 29 #[va, vb] w fun e w' => (∃ vq vr q r, e = .returned (.tuple #[vq, vr, .int .i64 0]) ∧ DivRel a b q r ∧ NumF w.heap.size w' vq q ∧ NumF w.heap.size w' vr r) ∧ Below w.heap.size w w' := by
  obtain ⟨s, rfl, h⟩ := h'
  obtain ⟨s', rfl, g⟩ := g'
  have hw1 := fun B W (hr : Row2 W B (decide (a < 0)) s (decide (b < 0)) s') (hW : Below w.heap.size w W) => allValid_two B _ s _ _ s' _ W hr.1 hr.2.1 hr.2.2.1 hr.2.2.2 (h.below hW (Nat.le_refl _)) (g.below hW (Nat.le_refl _))
  rw [vld_num a ha, vld_num b hb, Bool.true_and] at hw1
  have hw2 := fun W (hW : Below w.heap.size w W) => divide_any s s' a.natAbs b.natAbs (by omega) (by omega) W (h.below hW (Nat.le_refl _)) (g.below hW (Nat.le_refl _))
  have hHN : ∀ (x : Bool) (n : Nat) (W : World) (s : Value), Lim W s (dig n) → Calls Try.prog 52 #[.bool x, s] W fun e w' => e = .returned (.agg #[.bool (x && decide (dig n ≠ [])), s]) ∧ Below W.heap.size W w' := fun x n W s hl => number_any x s _ W hl
  have hrl : ∀ n, n ≤ a.natAbs ∨ n ≤ b.natAbs → (dig n).length ≤ 1048000 := fun n hn => by
    rcases hn with hn | hn <;> have := length_dig_mono hn <;> omega
  have e1 : dig 1 = [1] := by rw [dig_pos (by omega)]; simp [dig_zero]
  rcases bne_cases (decide (a < 0)) (decide (b < 0)) with ⟨-, hs⟩ | ⟨-, hs⟩
  · have hd := dm_same a b hb0 hs
    have hn1 := hHN false (a.natAbs / b.natAbs)
    have hn2 := hHN (decide (b < 0)) (a.natAbs % b.natAbs)
    rw [Bool.false_and] at hn1
    rw [sgnR_sign, hs] at hn2
    rw [hs] at hw1 ⊢
    obtain ⟨aa, ca, rfl⟩ := lim_slice h
    obtain ⟨ab, cb, rfl⟩ := lim_slice g
    refine (divmod_same _ _ _ aa ab _ ca _ cb _ _ (dig_pos_len (by omega)) w (Lib.hid hw1) (Lib.hid hw2) (Lib.hid hn1) (Lib.hid hn2)).mono ?_
    rintro e w' ⟨⟨sq, sr, rfl, hq, hr⟩, hb⟩
    refine ⟨⟨_, _, _, _, rfl, hd, ⟨sq, ?_, by rw [Int.natAbs_natCast]; exact hq⟩, ⟨sr, rfl, by rw [sgnR_abs]; exact hr⟩⟩, hb⟩
    rw [show decide (((a.natAbs / b.natAbs : Nat) : Int) < 0) = false from decide_eq_false (Int.not_lt.2 (Int.natCast_nonneg _))]
  · by_cases hR : a.natAbs % b.natAbs = 0
    · have hd := dm_even a b hb0 hs hR
      have hn1 := hHN true (a.natAbs / b.natAbs)
      have hn2 := hHN (decide (b < 0)) (a.natAbs % b.natAbs)
      rw [sgnR_sign, hs, hR] at hn2
      rw [neg_nat_sign] at hn1
      rw [hs] at hw1 ⊢
      rw [hR] at hw2
      obtain ⟨aa, ca, rfl⟩ := lim_slice h
      obtain ⟨ab, cb, rfl⟩ := lim_slice g
      refine (divmod_even _ _ _ aa ab _ ca _ cb _ _ (dig_pos_len (by omega)) (by rw [dig_zero]; simp) w (Lib.hid hw1) (Lib.hid hw2) (Lib.hid hn1) (Lib.hid hn2)).mono ?_
      rintro e w' ⟨⟨sq, sr, rfl, hq, hr⟩, hb⟩
      refine ⟨⟨_, _, _, _, rfl, hd, ⟨sq, rfl, by rw [Int.natAbs_neg, Int.natAbs_natCast]; exact hq⟩, ⟨sr, ?_, hr⟩⟩, hb⟩
      simp [sgnR]
    · have hd := dm_adjust a b hb0 hs hR
      have hlt := Nat.mod_lt a.natAbs (show 0 < b.natAbs by omega)
      have hq1 := Nat.div_le_self a.natAbs b.natAbs
      have hq2 : a.natAbs / b.natAbs + 1 ≤ a.natAbs := by have := hd.2.2.1; omega
      have hn1 := hHN true (a.natAbs / b.natAbs + 1)
      have hn2 := hHN (decide (b < 0)) (b.natAbs - a.natAbs % b.natAbs)
      rw [sgnR_sign, hs] at hn2
      rw [neg_nat_sign] at hn1
      have hl1 := fun W => limbsOf_any 1 (by omega) W
      have hc1 := fun W s1 s2 (k1 : Lim W s1 (dig (a.natAbs / b.natAbs))) (k2 : Lim W s2 (dig 1)) => combine_any s1 s2 (dig (a.natAbs / b.natAbs)) (dig 1) 1 1 (dig_Lm _) (dig_Lm _) (hrl _ (.inl hq1)) (by rw [e1]; simp) (by omega) (by omega) (by omega) (by omega) (by omega) W k1 k2
      rw [val_dig, val_dig, show (((a.natAbs / b.natAbs : Nat) : Int) * 1 + ((1 : Nat) : Int) * 1).toNat = a.natAbs / b.natAbs + 1 by generalize a.natAbs / b.natAbs = Q; omega] at hc1
      have hc2 := fun W s2 (hW : Below w.heap.size w W) (k2 : Lim W s2 (dig (a.natAbs % b.natAbs))) => combine_any s' s2 (dig b.natAbs) (dig (a.natAbs % b.natAbs)) 1 (-1) (dig_Lm _) (dig_Lm _) (by omega) (hrl _ (.inr (by omega))) (by omega) (by omega) (by omega) (by omega) (by rw [val_dig, val_dig]; omega) W (g.below hW (Nat.le_refl _)) k2
      rw [val_dig, val_dig, show ((b.natAbs : Int) * 1 + ((a.natAbs % b.natAbs : Nat) : Int) * (-1)).toNat = b.natAbs - a.natAbs % b.natAbs by generalize a.natAbs % b.natAbs = R at hlt ⊢; omega] at hc2
      rw [hs] at hw1 ⊢
      obtain ⟨aa, ca, rfl⟩ := lim_slice h
      obtain ⟨ab, cb, rfl⟩ := lim_slice g
      refine (divmod_adjust _ _ _ aa ab _ ca _ cb _ _ _ _ (dig_pos_len (by omega)) (by have := dig_pos_len hR; omega) w (Lib.hid hw1) (Lib.hid hw2) (Lib.hid hl1) (Lib.hid hc1) (Lib.hid hc2) (Lib.hid hn1) (Lib.hid hn2)).mono ?_
      rintro e w' ⟨⟨sq, sr, rfl, hq, hr⟩, hb⟩
      exact ⟨⟨_, _, _, _, rfl, hd, ⟨sq, rfl, by rw [Int.natAbs_neg, Int.natAbs_natCast]; exact hq⟩, ⟨sr, rfl, by rw [sgnR_abs]; exact hr⟩⟩, hb⟩

theorem DivMod_bad (b : Bool) (s : Value) (l : List Nat) (b' : Bool) (s' : Value) (l' : List Nat) (w : World) (h : Lim w s l) (g : Lim w s' l') (hv : (vld b l && vld b' l') = false) :
    Calls Try.prog 29 #[.agg #[.bool b, s], .agg #[.bool b', s']] w fun e w' => e = .returned (.tuple #[zeroW, zeroW, .int .i64 2]) ∧ Below w.heap.size w w' := by
  have hw1 := fun B W (hr : Row2 W B b s b' s') (hW : Below w.heap.size w W) => allValid_two B b s l b' s' l' W hr.1 hr.2.1 hr.2.2.1 hr.2.2.2 (h.below hW (Nat.le_refl _)) (g.below hW (Nat.le_refl _))
  rw [hv] at hw1
  obtain ⟨aa, ca, rfl⟩ := lim_slice h
  obtain ⟨ab, cb, rfl⟩ := lim_slice g
  exact divmod_bad _ _ aa ab _ ca _ cb w (Lib.hid hw1)

theorem DivMod_zero (va vb : Value) (a : Int) (ha : (dig a.natAbs).length ≤ 1024) (w : World) (h' : Num w va a) (g' : Num w vb 0) :
    Calls Try.prog 29 #[va, vb] w fun e w' => e = .returned (.tuple #[zeroW, zeroW, .int .i64 11]) ∧ Below w.heap.size w w' := by
  obtain ⟨s, rfl, h⟩ := h'
  obtain ⟨s', rfl, g⟩ := g'
  have hw1 := fun B W (hr : Row2 W B (decide (a < 0)) s (decide ((0 : Int) < 0)) s') (hW : Below w.heap.size w W) => allValid_two B _ s _ _ s' _ W hr.1 hr.2.1 hr.2.2.1 hr.2.2.2 (h.below hW (Nat.le_refl _)) (g.below hW (Nat.le_refl _))
  rw [vld_num a ha, vld_num 0 (by simp [dig_zero]), Bool.true_and] at hw1
  obtain ⟨aa, ca, rfl⟩ := lim_slice h
  obtain ⟨ab, cb, rfl⟩ := lim_slice g
  rw [show (dig (0 : Int).natAbs).length = 0 by simp [dig_zero]] at hw1 ⊢
  exact divmod_zero _ _ aa ab _ ca cb w (Lib.hid hw1)

end Go.Proofs.Ytodmbklednehbaa
