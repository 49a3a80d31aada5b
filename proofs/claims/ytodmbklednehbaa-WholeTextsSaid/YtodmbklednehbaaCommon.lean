/-
'commonDivisor'.
-/
import Derived.Test.YtodmbklednehbaaReduce
namespace Go.Proofs.Ytodmbklednehbaa
open Go.RowKit Wh

/-- Between two rounds: the slices hold numbers with the same greatest common divisor, the first one the greater. -/
def ComRel (X Y n : Nat) (wr : World) (va vb : Value) : Prop := ∃ A B : Nat, Nat.gcd A B = Nat.gcd X Y ∧ B ≤ A ∧ (dig A).length ≤ n ∧ Lim wr va (dig A) ∧ Lim wr vb (dig B)

theorem Lim.uniq {W : World} {v : Value} {l l' : List Nat} (h : Lim W v l) (h' : Lim W v l') : l = l' := by
  obtain ⟨a, cap, rfl, -⟩ := id h
  have hlen : l.length = l'.length := by
    obtain ⟨a', cap', e, -⟩ := id h'
    injection e
  by_cases hne : l = []
  · subst hne
    exact (List.eq_nil_of_length_eq_zero hlen.symm).symm
  have hne' : l' ≠ [] := fun e => hne (List.eq_nil_of_length_eq_zero (by rw [hlen, e]; rfl))
  obtain ⟨b, off, rfl, hb, hc⟩ := h.block hne
  rw [hlen] at h'
  obtain ⟨b', off', e, hb', hc'⟩ := h'.block hne'
  cases e
  refine List.ext_getElem hlen (fun k h1 h2 => ?_)
  have e1 := (hc k h1).symm.trans (hc' k h2)
  simp [h1, h2] at e1
  omega

theorem lf_slice0 {B : Nat} {W : World} {v : Value} {l : List Nat} (h : LimF B W v l) : ∃ a cap, v = .slice a l.length cap := by
  obtain ⟨a, cap, e, -⟩ := h.1; exact ⟨a, cap, e⟩

open Classical in
/-- The number that a slice holds. -/
noncomputable def numOf (W : World) (v : Value) : Nat := if h : ∃ n, Lim W v (dig n) then h.choose else 0

theorem numOf_eq {W : World} {v : Value} {n : Nat} (h : Lim W v (dig n)) : numOf W v = n := by
  have he : ∃ n, Lim W v (dig n) := ⟨n, h⟩
  unfold numOf
  rw [dif_pos he]
  have e := congrArg val (he.choose_spec.uniq h)
  rwa [val_dig, val_dig] at e

set_option maxRecDepth 100000 in
set_option maxHeartbeats 1000000 in
theorem commonDivisor_any (sa sb : Value) (X Y : Nat) (hX : (dig X).length ≤ 16384) (hY : (dig Y).length ≤ 16384) (w : World) (h : Lim w sa (dig X)) (g : Lim w sb (dig Y)) :
    Calls Try.prog 74 #[sa, sb] w fun e w' => (∃ v, e = .returned v ∧ LimF w.heap.size w' v (dig (Nat.gcd X Y))) ∧ Below w.heap.size w w' := by
  have hw1 := compare_any sa sb (dig X) (dig Y) (dig_Lm X) (dig_Lm Y) w h g
  rw [cmp_dig] at hw1
  have HW1 := Lib.hid hw1
  clear hw1
  obtain ⟨a, cap, rfl, -⟩ := id h
  obtain ⟨b, capb, rfl, -⟩ := id g
  obtain ⟨cm, hcm⟩ : ∃ cm, cm = cmpN X Y := ⟨_, rfl⟩
  have hcm2 : (cm < 0 ↔ X < Y) := by rw [hcm]; unfold cmpN; split <;> (try split) <;> omega
  rw [← hcm] at HW1
  clear hcm
  have HC2 := Lib.hid hcm2
  clear hcm2
  rcases Int.lt_or_le cm 0 with hc0 | hc0
  all_goals
    go_enter Try.func74, Try.ntmps74
    go_wp2_with (go_at_call 59; refine HW1.out.mono ?_; rintro e w1 ⟨rfl, hb1⟩)
    go_loopw [0, 1] (fun va vb wr => ComRel X Y 16384 wr va vb ∧ Below w.heap.size w wr) (fun _ vb wr => numOf wr vb)
    case atStart => first
      | exact ⟨⟨Y, X, Nat.gcd_comm Y X, by have := HC2.out; omega, hY, g.below hb1 (Nat.le_refl _), h.below hb1 (Nat.le_refl _)⟩, hb1⟩
      | exact ⟨⟨X, Y, rfl, by have := HC2.out; omega, hX, h.below hb1 (Nat.le_refl _), g.below hb1 (Nat.le_refl _)⟩, hb1⟩
    case round =>
      obtain ⟨⟨A, B, hgc, hBA, hA, hla, hlb⟩, hB⟩ := hrel
      obtain ⟨a1, c1, rfl, -⟩ := id hla
      obtain ⟨b1, d1, rfl, -⟩ := id hlb
      rcases Nat.lt_or_ge 4 (dig B).length with h4 | h4
      · have hr := reduce_any _ _ A B hBA h4 hA wr hla hlb
        have HR := Lib.hid hr
        clear hr
        go_wp2_with (go_at_call 80; refine HR.out.mono ?_; rintro e w2 ⟨⟨va, vb, A', B', rfl, g', l1, l2, m1, m2⟩, hb2⟩; obtain ⟨a2, c2, rfl, -⟩ := id m1; obtain ⟨b2, d2, rfl, -⟩ := id m2)
        have hn : (dig A').length ≤ (dig B).length := length_dig_mono l2
        have hn2 : (dig B).length ≤ (dig A).length := length_dig_mono hBA
        have hnum : numOf w2 (.slice b2 (dig B').length d2) < numOf wr (.slice b1 (dig B).length d1) := by rw [numOf_eq m2, numOf_eq hlb]; omega
        go_roundw
        case rel => exact ⟨⟨A', B', g'.trans hgc, by omega, by omega, m1, m2⟩, hB.trans (hb2.mono hB.size)⟩
        case measure => exact hnum
      · have hlen4 : ¬ 4 < ((dig B).length : Int) := by omega
        have hn2 : (dig B).length ≤ (dig A).length := length_dig_mono hBA
        have HGC := Lib.hid hgc
        clear hgc
        rcases Nat.eq_zero_or_pos B with hB0 | hB0
        · have hl0 : (((dig B).length : Int) == 0) = true := by subst hB0; simp [dig_zero]
          have hcp := copied_any _ _ wr hla
          have HCP := Lib.hid hcp
          have HB0 := Lib.hid hB0
          clear hcp hB0
          go_wp2_with (go_at_call 69; refine HCP.out.mono ?_; rintro e w2 ⟨⟨v', rfl, hl', hown⟩, hb2⟩)
          go_ret
          have e1 : Nat.gcd X Y = A := by rw [← HGC.out, HB0.out, Nat.gcd_zero_right]
          exact ⟨⟨v', rfl, by rw [e1]; exact ⟨hl', (Fr.of_owns hown).mono hB.size⟩⟩, hB.trans (hb2.mono hB.size)⟩
        · have hne0 : (((dig B).length : Int) == 0) = false := by
            have : dig B ≠ [] := fun e => by have := (dig_nil_iff B).1 e; omega
            have := List.length_pos_iff.2 this
            simp; omega
          have hB4 : B < 18446744073709551616 := (length_dig_le B 4).1 h4
          have hAB : A % B < B := Nat.mod_lt _ hB0
          have hw2 := divide_any _ _ A B (by omega) hA wr hla hlb
          have hw3 := fun W (hW : Below wr.heap.size wr W) => word_any _ (dig B) (dig_Lm B) W (hlb.below hW (Nat.le_refl _))
          rw [val_dig, Nat.mod_eq_of_lt hB4] at hw3
          have hw4 := fun s W (hW : Lim W s (dig (A % B))) => word_any s (dig (A % B)) (dig_Lm _) W hW
          rw [val_dig, Nat.mod_eq_of_lt (Nat.lt_trans hAB hB4)] at hw4
          have hw5 := fun W => shortDivisor_any B (A % B) hB4 (Nat.lt_trans hAB hB4) W
          have hw6 := fun W => limbsOf_any (Nat.gcd B (A % B)) (Nat.lt_of_le_of_lt (Nat.gcd_le_left _ hB0) hB4) W
          have eg : Nat.gcd B (A % B) = Nat.gcd X Y := by rw [← HGC.out, Nat.gcd_comm A B, Nat.gcd_rec B A, Nat.gcd_comm]
          rw [eg] at hw5 hw6
          have HW2 := Lib.hid hw2
          have HW3 := Lib.hid hw3
          have HW4 := Lib.hid hw4
          have HW5 := Lib.hid hw5
          have HW6 := Lib.hid hw6
          clear hw2 hw3 hw4 hw5 hw6 eg hB4 hAB
          go_wp2_with (first
            | (go_at_call 56; refine HW2.out.mono ?_; rintro e w2 ⟨⟨vq, vr, rfl, hlq, hlr⟩, hb2⟩; obtain ⟨aq, cq, rfl⟩ := lf_slice0 hlq; obtain ⟨ar, cr, rfl⟩ := lf_slice0 hlr)
            | (go_at_call_of 54 (Value.slice b1 (dig B).length d1); refine (HW3.out _ hb2).mono ?_; rintro e w3 ⟨rfl, hb3⟩; have hb23 := hb2.trans (hb3.mono hb2.size); have hlr3 := hlr.1.below hb3 (Nat.le_refl _))
            | (go_at_call_of 54 (Value.slice ar (dig (A % B)).length cr); refine (HW4.out _ _ hlr3).mono ?_; rintro e w4 ⟨rfl, hb4⟩; have hb24 := hb23.trans (hb4.mono hb23.size))
            | (go_at_call 81; refine (HW5.out _).mono ?_; rintro e w5 ⟨rfl, hb5⟩; have hb25 := hb24.trans (hb5.mono hb24.size))
            | (go_at_call 58; refine (HW6.out _).mono ?_; rintro e w6 ⟨⟨v', rfl, hl'⟩, hb6⟩; have hb26 := hb25.trans (hb6.mono hb25.size)))
          go_ret
          exact ⟨⟨v', rfl, hl'.mono (Nat.le_trans hB.size hb25.size)⟩, hB.trans (hb26.mono hB.size)⟩

end Go.Proofs.Ytodmbklednehbaa
