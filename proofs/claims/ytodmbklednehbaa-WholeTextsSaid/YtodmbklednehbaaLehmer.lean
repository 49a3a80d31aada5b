/-
The arithmetic of Lehmer's steps, over natural numbers: the cofactors by their amounts, and a sign for all.
-/
import Derived.Test.YtodmbklednehbaaGcdB
namespace Wh

theorem lehmer_quot {A B L x y u1 u2 v1 v2 k : Nat} (h1 : k * (y + v2) + u2 ≤ x) (h2 : x + u1 + (k + 1) * v1 < (k + 1) * y) (hL : 0 < L)
    (hA1 : L * x ≤ A + L * u2) (hA2 : A ≤ L * (x + u1)) (hB1 : L * y ≤ B + L * v1) (hB2 : B ≤ L * (y + v2)) : k * B ≤ A ∧ A < (k + 1) * B := by
  constructor
  · have e1 := Nat.mul_le_mul_left k hB2
    have e2 := Nat.mul_le_mul_left L h1
    rw [Nat.mul_add, Nat.mul_left_comm] at e2
    omega
  · have e1 := Nat.mul_lt_mul_of_pos_left h2 hL
    have e2 := Nat.mul_le_mul_left (k + 1) hB1
    rw [Nat.mul_add, Nat.mul_left_comm L (k + 1) v1, Nat.mul_left_comm L (k + 1) y] at e1
    rw [Nat.mul_add] at e2
    omega

/-- Where both quotients are k, the new cofactors are small. -/
theorem lehmer_small {x y u1 u2 v1 v2 k : Nat} (h1 : k * (y + v2) + u2 ≤ x) (h2 : x + u1 + (k + 1) * v1 < (k + 1) * y) : (u1 + k * v1) + (u2 + k * v2) < y := by
  rw [Nat.mul_add] at h1
  rw [Nat.add_mul, Nat.add_mul] at h2
  omega

theorem cof_even {S P Q R A B X Y : Nat} (hd : S * P = Q * R + 1) (hX : X = S * A + Q * B) (hY : Y = R * A + P * B) : P * X = A + Q * Y ∧ S * Y = B + R * X := by
  subst hX hY
  constructor
  · have e1 : P * (S * A + Q * B) = (S * P) * A + P * Q * B := by simp only [Nat.mul_add, Nat.mul_comm, Nat.mul_left_comm]
    rw [e1, hd]
    simp only [Nat.mul_add, Nat.mul_comm, Nat.mul_left_comm]
    omega
  · have e1 : S * (R * A + P * B) = S * R * A + (S * P) * B := by simp only [Nat.mul_add, Nat.mul_assoc]
    rw [e1, hd]
    simp only [Nat.mul_add, Nat.mul_comm, Nat.mul_left_comm]
    omega

theorem cof_odd {S P Q R A B X Y : Nat} (hd : Q * R = S * P + 1) (hX : X = S * A + Q * B) (hY : Y = R * A + P * B) : Q * Y = A + P * X ∧ R * X = B + S * Y := by
  have h := cof_even (S := Q) (P := R) (Q := S) (R := P) (A := B) (B := A) (X := X) (Y := Y) hd (by omega) (by omega)
  exact ⟨h.2, h.1⟩

/-- What the leading bits say of a number that the cofactors make: from the first line of 'cof_even' for both. -/
theorem lead {P Q X Y A L x0 y0 x ex ey : Nat} (hX : X = L * x0 + ex) (hY : Y = L * y0 + ey) (hex : ex < L) (hey : ey < L) (hA : P * X = A + Q * Y) (hx : P * x0 = x + Q * y0) :
    L * x ≤ A + L * Q ∧ A ≤ L * (x + P) := by
  have e1 : P * X = L * (P * x0) + P * ex := by rw [hX, Nat.mul_add, Nat.mul_left_comm]
  have e2 : Q * Y = L * (Q * y0) + Q * ey := by rw [hY, Nat.mul_add, Nat.mul_left_comm]
  have e3 : L * (P * x0) = L * x + L * (Q * y0) := by rw [hx, Nat.mul_add]
  have e4 : P * ex ≤ L * P := by rw [Nat.mul_comm L]; exact Nat.mul_le_mul_left _ (by omega)
  have e5 : Q * ey ≤ L * Q := by rw [Nat.mul_comm L]; exact Nat.mul_le_mul_left _ (by omega)
  rw [Nat.mul_add]
  omega

/-- What holds between two of Lehmer's steps. -/
structure LI (X Y x0 y0 : Nat) (A B x y P Q R S : Nat) (ev : Bool) : Prop where
  hX : X = S * A + Q * B
  hY : Y = R * A + P * B
  hx : x0 = S * x + Q * y
  hy : y0 = R * x + P * y
  det : if ev then S * P = Q * R + 1 else Q * R = S * P + 1
  hb : B ≤ A
  hg : Nat.gcd A B = Nat.gcd X Y
  b1 : P ≤ 2147483647 ∧ Q ≤ 2147483647
  b2 : R ≤ 2147483647 ∧ S ≤ 2147483647
  sx : if ev then Q ≤ x else P ≤ x
  sy : if ev then R ≤ y else S ≤ y

theorem LI.start {X Y x0 y0 : Nat} (h : Y ≤ X) : LI X Y x0 y0 X Y x0 y0 1 0 0 1 true :=
  ⟨by omega, by omega, by omega, by omega, by simp, h, rfl, by omega, by omega, by simp, by simp⟩

theorem sq_small {s x x0 : Nat} (h1 : s < x) (h2 : s * x ≤ x0) (h3 : x0 < 4611686018427387904) : s ≤ 2147483647 := by
  rcases Nat.lt_or_ge 2147483647 s with h | h
  · have e1 : 2147483648 * 2147483648 ≤ s * x := Nat.mul_le_mul (by omega) (by omega)
    omega
  · exact h

theorem gcd_step {A B k : Nat} (h : k * B ≤ A) : Nat.gcd B (A - k * B) = Nat.gcd A B := by
  have e : A = A - k * B + k * B := by omega
  conv => rhs; rw [e, Nat.gcd_comm]
  rw [Nat.gcd_add_mul_right_right]

theorem back {S Q A B k : Nat} (h : k * B ≤ A) : S * A + Q * B = (Q + k * S) * B + S * (A - k * B) := by
  have e : A = A - k * B + k * B := by omega
  conv => lhs; rw [e]
  rw [Nat.mul_add, Nat.add_mul, Nat.mul_assoc, Nat.mul_left_comm k S B]
  omega

theorem LI.even {X Y L x0 y0 ex ey A B x y P Q R S k : Nat} (h : LI X Y x0 y0 A B x y P Q R S true) (hX : X = L * x0 + ex) (hY : Y = L * y0 + ey) (hex : ex < L) (hey : ey < L)
    (h1 : k * (y + S) + Q ≤ x) (h2 : x + P + (k + 1) * R < (k + 1) * y) (hm : x0 < 4611686018427387904) (hyx : y0 ≤ x0) : LI X Y x0 y0 B (A - k * B) y (x - k * y) R S (P + k * R) (Q + k * S) false ∧ A - k * B < B := by
  have hd : S * P = Q * R + 1 := by simpa using h.det
  obtain ⟨c1, c2⟩ := cof_even hd h.hX h.hY
  obtain ⟨c3, c4⟩ := cof_even hd h.hx h.hy
  obtain ⟨l1, l2⟩ := lead hX hY hex hey c1 c3
  obtain ⟨l3, l4⟩ := lead hY hX hey hex c2 c4
  obtain ⟨q1, q2⟩ := lehmer_quot h1 h2 (by omega) l1 l2 l3 l4
  have hs := lehmer_small h1 h2
  have hky : k * y ≤ x := by rw [Nat.mul_add] at h1; omega
  have hx' : x0 = (Q + k * S) * y + S * (x - k * y) := by rw [← back hky]; exact h.hx
  have hy' : y0 = (P + k * R) * y + R * (x - k * y) := by rw [← back hky]; exact h.hy
  have hsy : R ≤ y := by simpa using h.sy
  refine ⟨⟨?_, ?_, hx', hy', ?_, ?_, ?_, h.b2, ⟨?_, ?_⟩, ?_, ?_⟩, by rw [Nat.add_mul] at q2; omega⟩
  · rw [← back q1]; exact h.hX
  · rw [← back q1]; exact h.hY
  · simp only [Bool.false_eq_true, if_false]
    rw [Nat.mul_add, Nat.add_mul, hd, Nat.mul_left_comm, Nat.mul_assoc]
    omega
  · rw [Nat.add_mul] at q2; omega
  · rw [gcd_step q1]; exact h.hg
  · exact sq_small (x := y) (x0 := x0) (by omega) (by omega) hm
  · exact sq_small (x := y) (x0 := x0) (by omega) (by omega) hm
  · simpa using hsy
  · simp only [Bool.false_eq_true, if_false]
    rw [Nat.mul_add] at h1; omega

theorem LI.odd {X Y L x0 y0 ex ey A B x y P Q R S k : Nat} (h : LI X Y x0 y0 A B x y P Q R S false) (hX : X = L * x0 + ex) (hY : Y = L * y0 + ey) (hex : ex < L) (hey : ey < L)
    (h1 : k * (y + R) + P ≤ x) (h2 : x + Q + (k + 1) * S < (k + 1) * y) (hm : x0 < 4611686018427387904) (hyx : y0 ≤ x0) : LI X Y x0 y0 B (A - k * B) y (x - k * y) R S (P + k * R) (Q + k * S) true ∧ A - k * B < B := by
  have hd : Q * R = S * P + 1 := by simpa using h.det
  obtain ⟨c1, c2⟩ := cof_odd hd h.hX h.hY
  obtain ⟨c3, c4⟩ := cof_odd hd h.hx h.hy
  obtain ⟨l1, l2⟩ := lead hY hX hey hex c1 c3
  obtain ⟨l3, l4⟩ := lead hX hY hex hey c2 c4
  obtain ⟨q1, q2⟩ := lehmer_quot h1 h2 (by omega) l1 l2 l3 l4
  have hs := lehmer_small h1 h2
  have hky : k * y ≤ x := by rw [Nat.mul_add] at h1; omega
  have hx' : x0 = (Q + k * S) * y + S * (x - k * y) := by rw [← back hky]; exact h.hx
  have hy' : y0 = (P + k * R) * y + R * (x - k * y) := by rw [← back hky]; exact h.hy
  have hsy : S ≤ y := by simpa using h.sy
  refine ⟨⟨?_, ?_, hx', hy', ?_, ?_, ?_, h.b2, ⟨?_, ?_⟩, ?_, ?_⟩, by rw [Nat.add_mul] at q2; omega⟩
  · rw [← back q1]; exact h.hX
  · rw [← back q1]; exact h.hY
  · simp only [if_true]
    rw [Nat.mul_add, Nat.add_mul, hd, Nat.mul_left_comm, Nat.mul_assoc]
    omega
  · rw [Nat.add_mul] at q2; omega
  · rw [gcd_step q1]; exact h.hg
  · exact sq_small (x := y) (x0 := x0) (by omega) (by omega) hm
  · exact sq_small (x := y) (x0 := x0) (by omega) (by omega) hm
  · simpa using hsy
  · simp only [if_true]
    rw [Nat.mul_add] at h1; omega

end Wh
