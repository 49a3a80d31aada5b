/-
'reduce'.
-/
import Derived.Test.YtodmbklednehbaaSteps
namespace Go.Proofs.Ytodmbklednehbaa
open Go.RowKit Wh

theorem stepRel_out {X Y x0 y0 : Nat} {p q r s x y : Value} (h : StepRel X Y x0 y0 p q r s x y) : ∃ pi qi ri si : Int, p = .int .i64 pi ∧ q = .int .i64 qi ∧ r = .int .i64 ri ∧ s = .int .i64 si ∧
    (-2147483647 ≤ pi ∧ pi ≤ 2147483647 ∧ -2147483647 ≤ qi ∧ qi ≤ 2147483647 ∧ -2147483647 ≤ ri ∧ ri ≤ 2147483647 ∧ -2147483647 ≤ si ∧ si ≤ 2147483647) ∧
    (qi ≠ 0 → ∃ A B : Nat, (X : Int) * pi + (Y : Int) * qi = (A : Int) ∧ (X : Int) * ri + (Y : Int) * si = (B : Int) ∧ Nat.gcd A B = Nat.gcd X Y ∧ B < A ∧ A ≤ Y) := by
  obtain ⟨A, B, x', y', P, Q, R, S, ev, hL, hst, -, -, -, rfl, rfl, rfl, rfl, -, -⟩ := h
  obtain ⟨b1, b2⟩ := hL.b1
  obtain ⟨b3, b4⟩ := hL.b2
  refine ⟨_, _, _, _, rfl, rfl, rfl, rfl, ?_, fun hq => ⟨A, B, ?_⟩⟩
  · cases ev <;> simp [sg] <;> omega
  · have hst2 : B < A ∧ A ≤ Y := by
      rcases hst with ⟨-, rfl⟩ | hst
      · exact absurd (by cases ev <;> simp [sg]) hq
      · exact hst
    cases ev with
    | true =>
      obtain ⟨c1, c2⟩ := cof_even (by simpa using hL.det) hL.hX hL.hY
      have c3 := congrArg (Nat.cast (R := Int)) c1
      have c4 := congrArg (Nat.cast (R := Int)) c2
      simp only [Int.natCast_mul, Int.natCast_add] at c3 c4
      refine ⟨?_, ?_, hL.hg, hst2⟩
      · simp only [sg, if_true, Bool.not_true, Bool.false_eq_true, if_false]
        rw [Int.mul_neg, Int.mul_comm, Int.mul_comm (Y : Int)]; omega
      · simp only [sg, if_true, Bool.not_true, Bool.false_eq_true, if_false]
        rw [Int.mul_neg, Int.mul_comm, Int.mul_comm (Y : Int)]; omega
    | false =>
      obtain ⟨c1, c2⟩ := cof_odd (by simpa using hL.det) hL.hX hL.hY
      have c3 := congrArg (Nat.cast (R := Int)) c1
      have c4 := congrArg (Nat.cast (R := Int)) c2
      simp only [Int.natCast_mul, Int.natCast_add] at c3 c4
      refine ⟨?_, ?_, hL.hg, hst2⟩
      · simp only [sg, if_true, Bool.not_false, Bool.false_eq_true, if_false]
        rw [Int.mul_neg, Int.mul_comm, Int.mul_comm (Y : Int)]; omega
      · simp only [sg, if_true, Bool.not_false, Bool.false_eq_true, if_false]
        rw [Int.mul_neg, Int.mul_comm, Int.mul_comm (Y : Int)]; omega

set_option maxRecDepth 100000 in
set_option maxHeartbeats 4000000 in
theorem reduce_any (sa sb : Value) (X Y : Nat) (hYX : Y ≤ X) (hY0 : 4 < (dig Y).length) (hX : (dig X).length ≤ 16384) (w : World) (h : Lim w sa (dig X)) (g : Lim w sb (dig Y)) :
    Calls Try.prog 80 #[sa, sb] w fun e w' => (∃ va vb, ∃ A B : Nat, e = .returned (.tuple #[va, vb]) ∧ Nat.gcd A B = Nat.gcd X Y ∧ B < A ∧ A ≤ Y ∧ Lim w' va (dig A) ∧ Lim w' vb (dig B)) ∧ Below w.heap.size w w' := by
  have hlen : (dig Y).length ≤ (dig X).length := length_dig_mono hYX
  have hYn : Y ≠ 0 := by rintro rfl; simp [dig_zero] at hY0
  have hw1 : Calls Try.prog 82 #[sa, sb] w fun e w' => (∃ pi qi ri si : Int, e = .returned (.tuple #[.int .i64 pi, .int .i64 qi, .int .i64 ri, .int .i64 si]) ∧
    (-2147483647 ≤ pi ∧ pi ≤ 2147483647 ∧ -2147483647 ≤ qi ∧ qi ≤ 2147483647 ∧ -2147483647 ≤ ri ∧ ri ≤ 2147483647 ∧ -2147483647 ≤ si ∧ si ≤ 2147483647) ∧
    (qi ≠ 0 → ∃ A B : Nat, (X : Int) * pi + (Y : Int) * qi = (A : Int) ∧ (X : Int) * ri + (Y : Int) * si = (B : Int) ∧ Nat.gcd A B = Nat.gcd X Y ∧ B < A ∧ A ≤ Y)) ∧ Below w.heap.size w w' := by
    refine (steps_any sa sb X Y hYX (by omega) hX w h g).mono ?_
    rintro e w1 ⟨⟨x0, y0, p, q, r, s, x, y, hs, rfl⟩, hb⟩
    obtain ⟨pi, qi, ri, si, rfl, rfl, rfl, rfl, h1, h2⟩ := stepRel_out hs
    exact ⟨⟨pi, qi, ri, si, rfl, h1, h2⟩, hb⟩
  obtain ⟨a, cap, rfl, -⟩ := id h
  obtain ⟨b, capb, rfl, -⟩ := id g
  have hw2 := fun W (hW : Below w.heap.size w W) => divide_any (.slice a (dig X).length cap) (.slice b (dig Y).length capb) X Y hYn hX W (h.below hW (Nat.le_refl _)) (g.below hW (Nat.le_refl _))
  have hw3 := fun (p q : Int) (C : Nat) (e : (X : Int) * p + (Y : Int) * q = (C : Int)) (p1 : -2147483647 ≤ p) (p2 : p ≤ 2147483647) (q1 : -2147483647 ≤ q) (q2 : q ≤ 2147483647) W (hW : Below w.heap.size w W) =>
    combine_any (.slice a (dig X).length cap) (.slice b (dig Y).length capb) (dig X) (dig Y) p q (dig_Lm X) (dig_Lm Y) (by omega) (by omega) (by omega) (by omega) (by omega) (by omega) (by rw [val_dig, val_dig, e]; omega) W (h.below hW (Nat.le_refl _)) (g.below hW (Nat.le_refl _))
  rw [val_dig, val_dig] at hw3
  have HW1 := Lib.hid hw1
  have HW2 := Lib.hid hw2
  have HW3 := Lib.hid hw3
  have HG := Lib.hid g
  clear hw1 hw2 hw3 hlen g
  go_enter Try.func80, Try.ntmps80
  go_wp2_with (first
    | (go_at_call 82; refine HW1.out.mono ?_; rintro e w1 ⟨⟨pi, qi, ri, si, rfl, ⟨p1, p2, q1, q2, r1, r2, s1, s2⟩, hAB⟩, hb1⟩)
    | (go_at_call 56; refine (HW2.out _ hb1).mono ?_; rintro e w2 ⟨⟨vq, vr, rfl, hlq, hlr⟩, hb2⟩))
  · have hb3 := hb1.trans (hb2.mono hb1.size)
    exact bodyPost_ret (v := .tuple #[.slice b (dig Y).length capb, vr]) (by simp [results, Try.results80, go_sem]) rfl
      ⟨⟨_, _, Y, X % Y, rfl, by rw [Nat.gcd_comm X Y, Nat.gcd_rec Y X, Nat.gcd_comm], Nat.mod_lt _ (Nat.pos_of_ne_zero hYn), Nat.le_refl _, HG.out.below hb3 (Nat.le_refl _), hlr.1⟩, hb3⟩
  · have hq : (qi == 0) = false := by assumption
    obtain ⟨A, B, eA, eB, hgc, hBA, hAY⟩ := hAB (by simpa using hq)
    have h1 := HW3.out pi qi A eA p1 p2 q1 q2
    have h2 := HW3.out ri si B eB r1 r2 s1 s2
    rw [eA, Int.toNat_natCast] at h1
    rw [eB, Int.toNat_natCast] at h2
    have H1 := Lib.hid h1
    have H2 := Lib.hid h2
    have HBA := Lib.hid hBA
    have HGC := Lib.hid hgc
    clear eA eB hBA hgc hAB h1 h2
    go_wp2_with (first
      | (go_at_call_of 57 (Value.int .i64 pi); refine (H1.out _ hb1).mono ?_; rintro e w2 ⟨⟨va, rfl, hla⟩, hb2⟩; have hb12 := hb1.trans (hb2.mono hb1.size))
      | (go_at_call_of 57 (Value.int .i64 ri); refine (H2.out _ hb12).mono ?_; rintro e w3 ⟨⟨vb, rfl, hlb⟩, hb3⟩))
    exact bodyPost_ret (v := .tuple #[va, vb]) (by simp [results, Try.results80, go_sem]) rfl
      ⟨⟨_, _, A, B, rfl, HGC.out, HBA.out, hAY, (hla.below hb3).1, hlb.1⟩, hb12.trans (hb3.mono hb12.size)⟩

end Go.Proofs.Ytodmbklednehbaa
