/-
'steps'.
-/
import Derived.Test.YtodmbklednehbaaLehmer
namespace Go.Proofs.Ytodmbklednehbaa
open Go.RowKit Wh

theorem top_bound {l : List Nat} (hl : Lm l) (h0 : 0 < l.length) {k : Nat} (h : l[l.length - 1]?.getD 0 < 2 ^ k) : val l < 2 ^ (16 * (l.length - 1) + k) := by
  have e := val_take_succ (l := l) (i := l.length - 1) (by omega)
  rw [Nat.sub_add_cancel h0, List.take_of_length_le (Nat.le_refl _)] at e
  have h3 := val_lt (hl.take (l.length - 1))
  rw [List.length_take, Nat.min_eq_left (by omega), show (65536 : Nat) = 2 ^ 16 from rfl, ← Nat.pow_mul] at h3
  have h4 : 2 ^ (16 * (l.length - 1)) * (l[l.length - 1]?.getD 0 + 1) ≤ 2 ^ (16 * (l.length - 1)) * 2 ^ k := Nat.mul_le_mul_left _ h
  rw [Nat.pow_add]
  rw [Nat.mul_add, Nat.mul_one] at h4
  omega

theorem quots {x y P Q R S c d k : Nat} (hc : x = c + Q) (hd : y = d + R) (hd0 : 0 < d) (h1 : (x + P) / d = k) (h2 : c / (y + S) = k) :
    k * (y + S) + Q ≤ x ∧ x + P + (k + 1) * R < (k + 1) * y ∧ k * y ≤ x ∧ (P + k * R) + (Q + k * S) < y := by
  have a1 : k * (y + S) ≤ c := by rw [← h2]; exact Nat.div_mul_le_self _ _
  have a2 : x + P < (k + 1) * d := by
    have h3 := Nat.div_add_mod (x + P) d
    have h4 := Nat.mod_lt (x + P) hd0
    rw [h1, Nat.mul_comm] at h3
    rw [Nat.add_mul]
    omega
  have a3 : (k + 1) * y = (k + 1) * d + (k + 1) * R := by rw [hd, Nat.mul_add]
  have a4 : k * (y + S) + Q ≤ x := by omega
  have a5 : x + P + (k + 1) * R < (k + 1) * y := by omega
  refine ⟨a4, a5, ?_, lehmer_small a4 a5⟩
  rw [Nat.mul_add] at a4
  omega

/-- The value of a cofactor: its amount, with the sign that the flag tells. -/
def sg (b : Bool) (n : Nat) : Int := if b then (n : Int) else -(n : Int)

def StepRel (X Y x0 y0 : Nat) (p q r s x y : Value) : Prop := ∃ (A B x' y' P Q R S : Nat) (ev : Bool), LI X Y x0 y0 A B x' y' P Q R S ev ∧ (P = 1 ∧ Q = 0 ∨ B < A ∧ A ≤ Y) ∧ B ≤ Y ∧ x' < 4611686018427387904 ∧ y' < 4611686018427387904 ∧
  p = .int .i64 (sg ev P) ∧ q = .int .i64 (sg (!ev) Q) ∧ r = .int .i64 (sg (!ev) R) ∧ s = .int .i64 (sg ev S) ∧ x = .int .i64 (x' : Int) ∧ y = .int .i64 (y' : Int)

set_option maxRecDepth 100000 in
set_option maxHeartbeats 1000000 in
theorem steps_any (sa sb : Value) (X Y : Nat) (hYX : Y ≤ X) (hX0 : 4 < (dig X).length) (hX : (dig X).length ≤ 16384) (w : World) (h : Lim w sa (dig X)) (g : Lim w sb (dig Y)) :
    Calls Try.prog 82 #[sa, sb] w fun e w' => (∃ x0 y0 p q r s x y, StepRel X Y x0 y0 p q r s x y ∧ e = .returned (.tuple #[p, q, r, s])) ∧ Below w.heap.size w w' := by
  have hXn : X ≠ 0 := by rintro rfl; simp [dig_zero] at hX0
  have hlen : (dig Y).length ≤ (dig X).length := length_dig_mono hYX
  have hw1 : Calls Try.prog 83 #[sa] w fun e w' => (∃ low : Nat, e = .returned (.int .i64 ((low + 62 : Nat) : Int)) ∧ low ≤ 262144 ∧ X < 2 ^ (low + 62) ∧ 16 * (dig X).length ≤ low + 77) ∧ w = w' := by
    refine (bitLen_any sa (dig X) (dig_Lm X) (fun e => hXn ((dig_nil_iff X).1 e)) (by omega) (dig_last_ne hXn) w h).mono ?_
    rintro e w1 ⟨⟨k, rfl, hk1, hk2, hk3, hk4⟩, rfl⟩
    have ht := top_bound (dig_Lm X) (by omega) hk4
    rw [val_dig] at ht
    obtain ⟨low, hlow⟩ : ∃ low, 16 * ((dig X).length - 1) + k = low + 62 := ⟨16 * ((dig X).length - 1) + k - 62, by omega⟩
    rw [hlow] at ht ⊢
    exact ⟨⟨low, rfl, by omega, ht, by omega⟩, rfl⟩
  have hw2 := fun (low : Nat) (h1 : low ≤ 262144) (h2 : 16 * (dig X).length ≤ low + 77) (h3 : X < 2 ^ (low + 62)) => bitsFrom_any sa (dig X) (dig_Lm X) low (by omega) (by omega) (by omega) (by rw [val_dig, Nat.div_lt_iff_lt_mul (Nat.two_pow_pos _), Nat.mul_comm]; rw [Nat.pow_add] at h3; exact h3) w h
  have hw3 := fun (low : Nat) (h1 : low ≤ 262144) (h2 : 16 * (dig X).length ≤ low + 77) (h3 : X < 2 ^ (low + 62)) => bitsFrom_any sb (dig Y) (dig_Lm Y) low (by omega) (by omega) (by omega) (by rw [val_dig, Nat.div_lt_iff_lt_mul (Nat.two_pow_pos _), Nat.mul_comm]; rw [Nat.pow_add] at h3; exact Nat.lt_of_le_of_lt hYX h3) w g
  rw [val_dig] at hw2 hw3
  have HW1 := Lib.hid hw1
  have HW2 := Lib.hid hw2
  have HW3 := Lib.hid hw3
  clear hw1 hw2 hw3 hlen
  go_enter Try.func82, Try.ntmps82
  go_wp2_with (first
    | (go_at_call 83; refine HW1.out.mono ?_; rintro e w1 ⟨⟨low, rfl, hl1, hl2, hl3⟩, rfl⟩)
    | (go_at_call_of 84 sa; refine (HW2.out _ hl1 hl3 hl2).mono ?_; rintro e w1 ⟨rfl, rfl⟩)
    | (go_at_call_of 84 sb; refine (HW3.out _ hl1 hl3 hl2).mono ?_; rintro e w1 ⟨rfl, rfl⟩))
  have hx0 : X / 2 ^ low < 4611686018427387904 := by rw [Nat.div_lt_iff_lt_mul (Nat.two_pow_pos _), Nat.mul_comm]; rw [Nat.pow_add] at hl2; exact hl2
  have hyx : Y / 2 ^ low ≤ X / 2 ^ low := Nat.div_le_div_right hYX
  have hXe : X = 2 ^ low * (X / 2 ^ low) + X % 2 ^ low := (Nat.div_add_mod _ _).symm
  have hYe : Y = 2 ^ low * (Y / 2 ^ low) + Y % 2 ^ low := (Nat.div_add_mod _ _).symm
  have hXm : X % 2 ^ low < 2 ^ low := Nat.mod_lt _ (Nat.two_pow_pos _)
  have hYm : Y % 2 ^ low < 2 ^ low := Nat.mod_lt _ (Nat.two_pow_pos _)
  have ex : ((X : Int) / 2 ^ low) = ((X / 2 ^ low : Nat) : Int) := by simp
  have ey : ((Y : Int) / 2 ^ low) = ((Y / 2 ^ low : Nat) : Int) := by simp
  rw [ex, ey]
  clear ex ey HW1 HW2 HW3 hl2 hl3
  generalize X / 2 ^ low = x0 at *
  generalize Y / 2 ^ low = y0 at *
  generalize X % 2 ^ low = fx at *
  generalize Y % 2 ^ low = fy at *
  generalize 2 ^ low = L at *
  have HXE := Lib.hid hXe
  have HYE := Lib.hid hYe
  have HXM := Lib.hid hXm
  have HYM := Lib.hid hYm
  clear hXe hYe hXm hYm
  go_loopw [4, 5, 6, 7, 9, 10] (fun p q r s x y wr => StepRel X Y x0 y0 p q r s x y ∧ Same w wr) (fun _ _ _ _ _ y _ => (intOf y).toNat)
  case atStart => exact ⟨⟨X, Y, x0, y0, 1, 0, 0, 1, true, LI.start hYX, .inl ⟨rfl, rfl⟩, Nat.le_refl _, hx0, by omega, rfl, rfl, rfl, rfl, rfl, rfl⟩, rfl⟩
  case round =>
    obtain ⟨⟨A, B, x, y, P, Q, R, S, ev, hLI, hst, hBY, hxb, hyb, rfl, rfl, rfl, rfl, rfl, rfl⟩, hs⟩ := hrel
    obtain rfl : w = wr := hs
    obtain ⟨b11, b12⟩ := hLI.b1
    obtain ⟨b21, b22⟩ := hLI.b2
    have hsx := hLI.sx
    have hsy := hLI.sy
    have HLI := Lib.hid hLI
    have HST := Lib.hid hst
    clear hLI hst
    cases ev with
    | true =>
      simp only [if_true] at hsx hsy
      simp only [sg, if_true, Bool.not_true, Bool.false_eq_true, if_false]
      rcases Nat.lt_or_ge R y with hRy | hRy
      · obtain ⟨d, hd⟩ : ∃ d, y = d + R := ⟨y - R, by omega⟩
        obtain ⟨c, hc⟩ : ∃ c, x = c + Q := ⟨x - Q, by omega⟩
        have hd0 : 0 < d := by omega
        obtain ⟨k, hk⟩ : ∃ k, (x + P) / d = k := ⟨_, rfl⟩
        obtain ⟨k2, hk2⟩ : ∃ k2, c / (y + S) = k2 := ⟨_, rfl⟩
        have i1 : ((x : Int) + (P : Int)) / (d : Int) = (k : Int) := by rw [← hk]; simp
        have i2 : (c : Int) / ((y : Int) + (S : Int)) = (k2 : Int) := by rw [← hk2]; simp
        have i3 : (y : Int) + -(R : Int) = (d : Int) := by omega
        have i4 : (x : Int) + -(Q : Int) = (c : Int) := by omega
        have g1 : (0 : Int) < (d : Int) := by omega
        have g2 : (0 : Int) < (y : Int) + (S : Int) := by omega
        have g3 : ¬ (d : Int) = 0 := by omega
        have g4 : ¬ ((y : Int) + (S : Int)) = 0 := by omega
        have HD := Lib.hid hd
        have HC := Lib.hid hc
        have HK := Lib.hid hk
        have HK2 := Lib.hid hk2
        have HD0 := Lib.hid hd0
        clear hd hc hk hk2
        have hkb : k ≤ x + P := by rw [← HK.out]; exact Nat.div_le_self _ _
        have hkb2 : k2 ≤ c := by rw [← HK2.out]; exact Nat.div_le_self _ _
        rcases Nat.decEq k k2 with hkk | hkk
        · go_wp2
          exact bodyPost_ret (v := .tuple #[.int .i64 (P : Int), .int .i64 (-(Q : Int)), .int .i64 (-(R : Int)), .int .i64 (S : Int)]) (by simp [results, Try.results82, go_sem]) rfl
            ⟨⟨x0, y0, _, _, _, _, _, _, ⟨A, B, x, y, P, Q, R, S, true, HLI.out, HST.out, hBY, hxb, hyb, rfl, rfl, rfl, rfl, rfl, rfl⟩, rfl⟩, Below.refl _ _⟩
        · subst hkk
          go_wp2
          obtain ⟨a1, a2, a3, a4⟩ := quots HC.out HD.out HD0.out HK.out HK2.out
          obtain ⟨n1, n2⟩ := HLI.out.even HXE.out HYE.out HXM.out HYM.out a1 a2 hx0 hyx
          have j1 : wrap64 ((P : Int) - wrap64 ((k : Int) * -(R : Int))) = ((P + k * R : Nat) : Int) := by
            rw [Int.mul_neg, ← Int.natCast_mul, IntWalk.wrap64_in (-((k * R : Nat) : Int)) (by omega), IntWalk.wrap64_in _ (by omega)]; omega
          have j2 : wrap64 (-(Q : Int) - wrap64 ((k : Int) * (S : Int))) = -((Q + k * S : Nat) : Int) := by
            rw [← Int.natCast_mul, IntWalk.wrap64_in ((k * S : Nat) : Int) (by omega), IntWalk.wrap64_in _ (by omega)]; omega
          have j3 : wrap64 ((x : Int) - wrap64 ((k : Int) * (y : Int))) = ((x - k * y : Nat) : Int) := by
            rw [← Int.natCast_mul, IntWalk.wrap64_in ((k * y : Nat) : Int) (by omega), IntWalk.wrap64_in _ (by omega)]; omega
          rw [j1, j2, j3]
          have j4 : x - k * y < y := by rw [Nat.add_mul, Nat.add_mul] at a2; omega
          exact ⟨⟨⟨B, A - k * B, y, x - k * y, R, S, P + k * R, Q + k * S, false, n1, .inr ⟨n2, hBY⟩, by omega, hyb, by omega, rfl, rfl, rfl, rfl, rfl, rfl⟩, rfl⟩, by simp [intOf]; omega⟩
      · have g1 : ¬ (0 : Int) < (y : Int) + -(R : Int) := by omega
        go_wp2
        exact bodyPost_ret (v := .tuple #[.int .i64 (P : Int), .int .i64 (-(Q : Int)), .int .i64 (-(R : Int)), .int .i64 (S : Int)]) (by simp [results, Try.results82, go_sem]) rfl
          ⟨⟨x0, y0, _, _, _, _, ⟨_, _, A, B, x, y, P, Q, R, S, true, HLI.out, HST.out, hBY, hxb, hyb, rfl, rfl, rfl, rfl, rfl, rfl⟩, rfl⟩, Below.refl _ _⟩
    | false =>
      simp only [Bool.false_eq_true, if_false] at hsx hsy
      simp only [sg, if_true, Bool.not_false, Bool.false_eq_true, if_false]
      have hR0 : 0 < R := by
        have hdet := HLI.out.det
        simp only [Bool.false_eq_true, if_false] at hdet
        rcases Nat.eq_zero_or_pos R with rfl | hR
        · simp at hdet
        · exact hR
      rcases Nat.lt_or_ge S y with hRy | hRy
      · obtain ⟨d, hd⟩ : ∃ d, y = d + S := ⟨y - S, by omega⟩
        obtain ⟨c, hc⟩ : ∃ c, x = c + P := ⟨x - P, by omega⟩
        have hd0 : 0 < d := by omega
        obtain ⟨k2, hk2⟩ : ∃ k2, (x + Q) / d = k2 := ⟨_, rfl⟩
        obtain ⟨k, hk⟩ : ∃ k, c / (y + R) = k := ⟨_, rfl⟩
        have i1 : ((x : Int) + (Q : Int)) / (d : Int) = (k2 : Int) := by rw [← hk2]; simp
        have i2 : (c : Int) / ((y : Int) + (R : Int)) = (k : Int) := by rw [← hk]; simp
        have i3 : (y : Int) + -(S : Int) = (d : Int) := by omega
        have i4 : (x : Int) + -(P : Int) = (c : Int) := by omega
        have g1 : (0 : Int) < (d : Int) := by omega
        have g2 : (0 : Int) < (y : Int) + (R : Int) := by omega
        have g3 : ¬ (d : Int) = 0 := by omega
        have g4 : ¬ ((y : Int) + (R : Int)) = 0 := by omega
        have HD := Lib.hid hd
        have HC := Lib.hid hc
        have HK := Lib.hid hk
        have HK2 := Lib.hid hk2
        have HD0 := Lib.hid hd0
        clear hd hc hk hk2
        have hkb : k ≤ c := by rw [← HK.out]; exact Nat.div_le_self _ _
        have hkb2 : k2 ≤ x + Q := by rw [← HK2.out]; exact Nat.div_le_self _ _
        rcases Nat.decEq k k2 with hkk | hkk
        · go_wp2
          exact bodyPost_ret (v := .tuple #[.int .i64 (-(P : Int)), .int .i64 (Q : Int), .int .i64 (R : Int), .int .i64 (-(S : Int))]) (by simp [results, Try.results82, go_sem]) rfl
            ⟨⟨x0, y0, _, _, _, _, _, _, ⟨A, B, x, y, P, Q, R, S, false, HLI.out, HST.out, hBY, hxb, hyb, rfl, rfl, rfl, rfl, rfl, rfl⟩, rfl⟩, Below.refl _ _⟩
        · subst hkk
          go_wp2
          obtain ⟨a1, a2, a3, a4⟩ := quots (P := Q) (Q := P) (R := S) (S := R) HC.out HD.out HD0.out HK2.out HK.out
          obtain ⟨n1, n2⟩ := HLI.out.odd HXE.out HYE.out HXM.out HYM.out a1 a2 hx0 hyx
          have j1 : wrap64 ((Q : Int) - wrap64 ((k : Int) * -(S : Int))) = ((Q + k * S : Nat) : Int) := by
            rw [Int.mul_neg, ← Int.natCast_mul, IntWalk.wrap64_in (-((k * S : Nat) : Int)) (by omega), IntWalk.wrap64_in _ (by omega)]; omega
          have j2 : wrap64 (-(P : Int) - wrap64 ((k : Int) * (R : Int))) = -((P + k * R : Nat) : Int) := by
            rw [← Int.natCast_mul, IntWalk.wrap64_in ((k * R : Nat) : Int) (by omega), IntWalk.wrap64_in _ (by omega)]; omega
          have j3 : wrap64 ((x : Int) - wrap64 ((k : Int) * (y : Int))) = ((x - k * y : Nat) : Int) := by
            rw [← Int.natCast_mul, IntWalk.wrap64_in ((k * y : Nat) : Int) (by omega), IntWalk.wrap64_in _ (by omega)]; omega
          rw [j1, j2, j3]
          have j4 : x - k * y < y := by rw [Nat.add_mul, Nat.add_mul] at a2; omega
          exact ⟨⟨⟨B, A - k * B, y, x - k * y, R, S, P + k * R, Q + k * S, true, n1, .inr ⟨n2, hBY⟩, by omega, hyb, by omega, rfl, rfl, rfl, rfl, rfl, rfl⟩, rfl⟩, by simp [intOf]; omega⟩
      · have g1 : ¬ (0 : Int) < (y : Int) + -(S : Int) := by omega
        have g2 : (0 : Int) < (y : Int) + (R : Int) := by omega
        go_wp2
        exact bodyPost_ret (v := .tuple #[.int .i64 (-(P : Int)), .int .i64 (Q : Int), .int .i64 (R : Int), .int .i64 (-(S : Int))]) (by simp [results, Try.results82, go_sem]) rfl
          ⟨⟨x0, y0, _, _, _, _, ⟨_, _, A, B, x, y, P, Q, R, S, false, HLI.out, HST.out, hBY, hxb, hyb, rfl, rfl, rfl, rfl, rfl, rfl⟩, rfl⟩, Below.refl _ _⟩

end Go.Proofs.Ytodmbklednehbaa
