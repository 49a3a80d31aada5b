/- A part of the proofs about fractions. -/
import Derived.Test.YtmbcnfogjncdaaaGreatQFl7
set_option maxRecDepth 100000
set_option maxHeartbeats 4000000
namespace Go.Proofs.YtmbcnfogjncdaaaGreat
open Go.RowKit Wh
def bitsOf (l : List Nat) (low i : Nat) : Nat := val (l.take i) / 2 ^ low
theorem bitsOf_start {l : List Nat} (hl : Lm l) {low : Nat} : bitsOf l low (low / 16) = 0 := by
 unfold bitsOf
 have h1 := val_lt (hl.take (low / 16))
 refine Nat.div_eq_of_lt (Nat.lt_of_lt_of_le h1 ?_)
 have h2 : (65536 : Nat) = 2 ^ 16 := rfl
 rw [h2, ← Nat.pow_mul]
 exact Nat.pow_le_pow_right (by omega) (by simp; omega)
theorem val_take_succ {l : List Nat} {i : Nat} (hi : i < l.length) : val (l.take (i + 1)) = val (l.take i) + 2 ^ (16 * i) * l[i]?.getD 0 := by
 rw [List.take_succ_eq_append_getElem hi, val_append, List.length_take, Nat.min_eq_left (by omega), getD_lt_length hi, val_cons, val_nil, Nat.pow_mul]
 simp
theorem bitsOf_low {l : List Nat} (hl : Lm l) {low i : Nat} (hi : i < l.length) (h1 : 16 * i < low) (h2 : low < 16 * i + 16) :
  bitsOf l low (i + 1) = l[i]?.getD 0 / 2 ^ (low - 16 * i) := by
 unfold bitsOf
 have h3 := val_lt (hl.take i)
 rw [List.length_take, Nat.min_eq_left (by omega), show (65536 : Nat) = 2 ^ 16 from rfl, ← Nat.pow_mul] at h3
 rw [val_take_succ hi, show low = 16 * i + (low - 16 * i) from by omega, Nat.pow_add, ← Nat.div_div_eq_div_mul, Nat.add_mul_div_left _ _ (Nat.two_pow_pos _), Nat.div_eq_of_lt h3, Nat.zero_add]
 congr 2
 omega
theorem bitsOf_high {l : List Nat} (hl : Lm l) {low i : Nat} (hi : i < l.length) (h1 : low ≤ 16 * i) :
  bitsOf l low (i + 1) = bitsOf l low i + l[i]?.getD 0 * 2 ^ (16 * i - low) ∧ bitsOf l low i < 2 ^ (16 * i - low) := by
 unfold bitsOf
 have h3 := val_lt (hl.take i)
 rw [List.length_take, Nat.min_eq_left (by omega), show (65536 : Nat) = 2 ^ 16 from rfl, ← Nat.pow_mul] at h3
 have e : 2 ^ (16 * i) = 2 ^ low * 2 ^ (16 * i - low) := by rw [← Nat.pow_add]; congr 1; omega
 rw [val_take_succ hi]
 constructor
 · rw [e, Nat.mul_assoc, Nat.add_mul_div_left _ _ (Nat.two_pow_pos _), Nat.mul_comm (2 ^ (16 * i - low))]
 · rw [Nat.div_lt_iff_lt_mul (Nat.two_pow_pos _), Nat.mul_comm, ← e]; exact h3
theorem bitsOf_mono {l : List Nat} {low i : Nat} : bitsOf l low i ≤ val l / 2 ^ low := by
 unfold bitsOf
 refine Nat.div_le_div_right ?_
 have := val_take_drop l i
 omega
theorem bitsOf_all {l : List Nat} {low i : Nat} (h : l.length ≤ i) : bitsOf l low i = val l / 2 ^ low := by
 unfold bitsOf
 rw [List.take_of_length_le h]
theorem bits_or_i64_nat (a b : Nat) (ha : a < 9223372036854775808) (hb : b < 9223372036854775808) : bits .or .i64 (a : Int) (b : Int) = ((a ||| b : Nat) : Int) := by
 have hx : a ||| b < 2 ^ 63 := Nat.or_lt_two_pow (by omega) (by omega)
 have h1 : (BitVec.ofInt 64 (a : Int)).toNat = a := by
  rw [BitVec.ofInt_natCast, BitVec.toNat_ofNat]; exact Nat.mod_eq_of_lt (by omega)
 have h2 : (BitVec.ofInt 64 (b : Int)).toNat = b := by
  rw [BitVec.ofInt_natCast, BitVec.toNat_ofNat]; exact Nat.mod_eq_of_lt (by omega)
 show IntKind.i64.wrap ((BitVec.ofInt 64 (a : Int) ||| BitVec.ofInt 64 (b : Int)).toNat : Int) = _
 rw [BitVec.toNat_or, h1, h2]
 exact IntWalk.i64_in _ (by omega)
theorem or_high {n u s : Nat} (hn : n < 2 ^ s) : n ||| u * 2 ^ s = n + u * 2 ^ s := by
 rw [Nat.or_comm, Nat.mul_comm, ← Nat.two_pow_add_eq_or_of_lt hn, Nat.add_comm]
def BitsRel (l : List Nat) (low : Nat) (n i : Value) : Prop := ∃ k : Nat, low / 16 ≤ k ∧ (k ≤ l.length ∨ k = low / 16) ∧ i = .int .i64 (k : Int) ∧ n = .int .i64 ((bitsOf l low k : Nat) : Int)
theorem bitsFrom_any (sv : Value) (l : List Nat) (hl : Lm l) (low : Nat) (hll : l.length ≤ 1048000) (hlow : low ≤ 1000000000) (hsh : 16 * l.length ≤ low + 78) (hfit : val l / 2 ^ low < 4611686018427387904) (w : World) (h : Lim w sv l) :
    Calls Tryz.prog 260 #[sv, .int .i64 (low : Int)] w fun e w' => e = .returned (.int .i64 ((val l / 2 ^ low : Nat) : Int)) ∧ w = w' := by
  have h' := h
  obtain ⟨a, cap, rfl, hlc, ⟨hcm, hcl, hcn⟩, hcs⟩ := h'
  clear hcs hcn
  go_enter Tryz.func260, Tryz.ntmps260
  go_wp2
  go_loopw [5, 6] (fun n i wr => BitsRel l low n i ∧ Same w wr) (fun _ i _ => l.length - (intOf i).toNat)
  case atStart => exact ⟨⟨low / 16, Nat.le_refl _, .inr rfl, by simp, by rw [bitsOf_start hl]; rfl⟩, rfl⟩
  case round =>
    obtain ⟨⟨k, hk1, hk2, rfl, rfl⟩, hs⟩ := hrel
    obtain rfl : w = wr := hs
    have hb0 := Nat.lt_of_le_of_lt (bitsOf_mono (l := l) (low := low) (i := k)) hfit
    have hb1 := Nat.lt_of_le_of_lt (bitsOf_mono (l := l) (low := low) (i := k + 1)) hfit
    obtain ⟨n, hn⟩ : ∃ n, n = bitsOf l low k := ⟨_, rfl⟩
    have HN := Lib.hid hn
    rw [← hn] at hb0 ⊢
    clear hn
    rcases Nat.lt_or_ge k l.length with hkl | hkl
    · obtain ⟨b, off, rfl, hb, hc⟩ := h.block (by rintro rfl; simp at hkl)
      have hcell := hc k hkl
      have hu := hl.getD k
      have HL := @bitsOf_low l hl low k hkl
      have HH := @bitsOf_high l hl low k hkl
      clear hc h
      generalize l[k]?.getD 0 = u at hcell hu HL HH
      rcases Nat.lt_or_ge (16 * k) low with hs1 | hs1
      · obtain ⟨s, hs⟩ : ∃ s, s = low - 16 * k := ⟨_, rfl⟩
        have hd : ((16 * (k : Int) - (low : Int)) < 0) := by omega
        have hd2 : (-(16 * (k : Int) - (low : Int))) = (s : Int) := by omega
        have hd3 : ¬ ((s : Int) < 0) := by omega
        have hd4 : (s : Int) < 16 := by omega
        have HLo := Lib.hid HL
        clear HL HH
        go_wp2
        have hk0 : k = low / 16 := by omega
        have hn0 : n = 0 := by rw [HN.out, hk0]; exact bitsOf_start hl
        have e1 : bitsOf l low (k + 1) = u / 2 ^ (low - 16 * k) := HLo.out hs1 (by omega)
        have e2 : u / 2 ^ (low - 16 * k) ≤ u := Nat.div_le_self _ _
        refine ⟨⟨⟨k + 1, by omega, .inl (by omega), by simp, ?_⟩, rfl⟩, by simp [intOf]; omega⟩
        rw [e1, show ((u : Int) / 2 ^ (low - 16 * k)) = ((u / 2 ^ (low - 16 * k) : Nat) : Int) from by simp, IntWalk.wrap64_in _ (by omega), hn0]
        exact congrArg (Value.int .i64) ((bits_or_i64_nat 0 _ (by omega) (by omega)).trans (by simp))
      · obtain ⟨s, hs⟩ : ∃ s, s = 16 * k - low := ⟨_, rfl⟩
        have hd : 16 * (k : Int) - (low : Int) = (s : Int) := by omega
        have hd3 : ¬ ((s : Int) < 0) := by omega
        have hd4 : (s : Int) < 64 := by omega
        have HHi := Lib.hid HH
        clear HL HH
        go_wp2
        obtain ⟨e1, e2⟩ := HHi.out hs1
        rw [← HN.out] at e1 e2
        have e3 : u * 2 ^ (16 * k - low) < 4611686018427387904 := by omega
        refine ⟨⟨⟨k + 1, by omega, .inl (by omega), by simp, ?_⟩, rfl⟩, by simp [intOf]; omega⟩
        rw [e1, show ((u : Int) * 2 ^ (16 * k - low)) = ((u * 2 ^ (16 * k - low) : Nat) : Int) from by simp, IntWalk.wrap64_in _ (by omega), bits_or_i64_nat _ _ (by omega) (by omega), or_high e2]
    · go_wp2
      go_ret
      have e := HN.out
      rw [bitsOf_all hkl] at e
      subst e
      exact ⟨rfl, rfl⟩
end Go.Proofs.YtmbcnfogjncdaaaGreat
namespace Wh
theorem lehmer_quot {A B L x y u1 u2 v1 v2 k : Nat} (h1 : k * (y + v2) + u2 ≤ x) (h2 : x + u1 + (k + 1) * v1 < (k + 1) * y) (hL : 0 < L)
    (hA1 : L * x ≤ A + L * u2) (hA2 : A ≤ L * (x + u1)) (hB1 : L * y ≤ B + L * v1) (hB2 : B ≤ L * (y + v2)) : k * B ≤ A ∧ A < (k + 1) * B := by
  constructor
  · have e1 := Nat.mul_le_mul_left k hB2
    have e2 := Nat.mul_le_mul_left L h1
    rw [Nat.mul_add, Nat.mul_left_comm] at e2
    omega
  · have e1 := Nat.mul_lt_mul_of_pos_left h2 hL
    have e2 := Nat.mul_le_mul_left (k + 1) hB1
    rw [Nat.mul_add, Nat.mul_left_comm L (k + 1) v1, Nat.mul_left_comm L (k + 1) y] at e1
    rw [Nat.mul_add] at e2
    omega
theorem lehmer_small {x y u1 u2 v1 v2 k : Nat} (h1 : k * (y + v2) + u2 ≤ x) (h2 : x + u1 + (k + 1) * v1 < (k + 1) * y) : (u1 + k * v1) + (u2 + k * v2) < y := by
 rw [Nat.mul_add] at h1
 rw [Nat.add_mul, Nat.add_mul] at h2
 omega
theorem cof_even {S P Q R A B X Y : Nat} (hd : S * P = Q * R + 1) (hX : X = S * A + Q * B) (hY : Y = R * A + P * B) : P * X = A + Q * Y ∧ S * Y = B + R * X := by
  subst hX hY
  constructor
  · have e1 : P * (S * A + Q * B) = (S * P) * A + P * Q * B := by simp only [Nat.mul_add, Nat.mul_comm, Nat.mul_left_comm]
    rw [e1, hd]
    simp only [Nat.mul_add, Nat.mul_comm, Nat.mul_left_comm]
    omega
  · have e1 : S * (R * A + P * B) = S * R * A + (S * P) * B := by simp only [Nat.mul_add, Nat.mul_assoc]
    rw [e1, hd]
    simp only [Nat.mul_add, Nat.mul_comm, Nat.mul_left_comm]
    omega
theorem cof_odd {S P Q R A B X Y : Nat} (hd : Q * R = S * P + 1) (hX : X = S * A + Q * B) (hY : Y = R * A + P * B) : Q * Y = A + P * X ∧ R * X = B + S * Y := by
 have h := cof_even (S := Q) (P := R) (Q := S) (R := P) (A := B) (B := A) (X := X) (Y := Y) hd (by omega) (by omega)
 exact ⟨h.2, h.1⟩
theorem lead {P Q X Y A L x0 y0 x ex ey : Nat} (hX : X = L * x0 + ex) (hY : Y = L * y0 + ey) (hex : ex < L) (hey : ey < L) (hA : P * X = A + Q * Y) (hx : P * x0 = x + Q * y0) :
  L * x ≤ A + L * Q ∧ A ≤ L * (x + P) := by
 have e1 : P * X = L * (P * x0) + P * ex := by rw [hX, Nat.mul_add, Nat.mul_left_comm]
 have e2 : Q * Y = L * (Q * y0) + Q * ey := by rw [hY, Nat.mul_add, Nat.mul_left_comm]
 have e3 : L * (P * x0) = L * x + L * (Q * y0) := by rw [hx, Nat.mul_add]
 have e4 : P * ex ≤ L * P := by rw [Nat.mul_comm L]; exact Nat.mul_le_mul_left _ (by omega)
 have e5 : Q * ey ≤ L * Q := by rw [Nat.mul_comm L]; exact Nat.mul_le_mul_left _ (by omega)
 rw [Nat.mul_add]
 omega
structure LI (X Y x0 y0 : Nat) (A B x y P Q R S : Nat) (ev : Bool) : Prop where
 hX : X = S * A + Q * B
 hY : Y = R * A + P * B
 hx : x0 = S * x + Q * y
 hy : y0 = R * x + P * y
 det : if ev then S * P = Q * R + 1 else Q * R = S * P + 1
 hb : B ≤ A
 hg : Nat.gcd A B = Nat.gcd X Y
 b1 : P ≤ 2147483647 ∧ Q ≤ 2147483647
 b2 : R ≤ 2147483647 ∧ S ≤ 2147483647
 sx : if ev then Q ≤ x else P ≤ x
 sy : if ev then R ≤ y else S ≤ y
theorem LI.start {X Y x0 y0 : Nat} (h : Y ≤ X) : LI X Y x0 y0 X Y x0 y0 1 0 0 1 true :=
 ⟨by omega, by omega, by omega, by omega, by simp, h, rfl, by omega, by omega, by simp, by simp⟩
theorem sq_small {s x x0 : Nat} (h1 : s < x) (h2 : s * x ≤ x0) (h3 : x0 < 4611686018427387904) : s ≤ 2147483647 := by
  rcases Nat.lt_or_ge 2147483647 s with h | h
  · have e1 : 2147483648 * 2147483648 ≤ s * x := Nat.mul_le_mul (by omega) (by omega)
    omega
  · exact h
theorem gcd_step {A B k : Nat} (h : k * B ≤ A) : Nat.gcd B (A - k * B) = Nat.gcd A B := by
 have e : A = A - k * B + k * B := by omega
 conv => rhs; rw [e, Nat.gcd_comm]
 rw [Nat.gcd_add_mul_right_right]
theorem back {S Q A B k : Nat} (h : k * B ≤ A) : S * A + Q * B = (Q + k * S) * B + S * (A - k * B) := by
 have e : A = A - k * B + k * B := by omega
 conv => lhs; rw [e]
 rw [Nat.mul_add, Nat.add_mul, Nat.mul_assoc, Nat.mul_left_comm k S B]
 omega
theorem LI.even {X Y L x0 y0 ex ey A B x y P Q R S k : Nat} (h : LI X Y x0 y0 A B x y P Q R S true) (hX : X = L * x0 + ex) (hY : Y = L * y0 + ey) (hex : ex < L) (hey : ey < L)
    (h1 : k * (y + S) + Q ≤ x) (h2 : x + P + (k + 1) * R < (k + 1) * y) (hm : x0 < 4611686018427387904) (hyx : y0 ≤ x0) : LI X Y x0 y0 B (A - k * B) y (x - k * y) R S (P + k * R) (Q + k * S) false ∧ A - k * B < B := by
  have hd : S * P = Q * R + 1 := by simpa using h.det
  obtain ⟨c1, c2⟩ := cof_even hd h.hX h.hY
  obtain ⟨c3, c4⟩ := cof_even hd h.hx h.hy
  obtain ⟨l1, l2⟩ := lead hX hY hex hey c1 c3
  obtain ⟨l3, l4⟩ := lead hY hX hey hex c2 c4
  obtain ⟨q1, q2⟩ := lehmer_quot h1 h2 (by omega) l1 l2 l3 l4
  have hs := lehmer_small h1 h2
  have hky : k * y ≤ x := by rw [Nat.mul_add] at h1; omega
  have hx' : x0 = (Q + k * S) * y + S * (x - k * y) := by rw [← back hky]; exact h.hx
  have hy' : y0 = (P + k * R) * y + R * (x - k * y) := by rw [← back hky]; exact h.hy
  have hsy : R ≤ y := by simpa using h.sy
  refine ⟨⟨?_, ?_, hx', hy', ?_, ?_, ?_, h.b2, ⟨?_, ?_⟩, ?_, ?_⟩, by rw [Nat.add_mul] at q2; omega⟩
  · rw [← back q1]; exact h.hX
  · rw [← back q1]; exact h.hY
  · simp only [Bool.false_eq_true, if_false]
    rw [Nat.mul_add, Nat.add_mul, hd, Nat.mul_left_comm, Nat.mul_assoc]
    omega
  · rw [Nat.add_mul] at q2; omega
  · rw [gcd_step q1]; exact h.hg
  · exact sq_small (x := y) (x0 := x0) (by omega) (by omega) hm
  · exact sq_small (x := y) (x0 := x0) (by omega) (by omega) hm
  · simpa using hsy
  · simp only [Bool.false_eq_true, if_false]
    rw [Nat.mul_add] at h1; omega
theorem LI.odd {X Y L x0 y0 ex ey A B x y P Q R S k : Nat} (h : LI X Y x0 y0 A B x y P Q R S false) (hX : X = L * x0 + ex) (hY : Y = L * y0 + ey) (hex : ex < L) (hey : ey < L)
    (h1 : k * (y + R) + P ≤ x) (h2 : x + Q + (k + 1) * S < (k + 1) * y) (hm : x0 < 4611686018427387904) (hyx : y0 ≤ x0) : LI X Y x0 y0 B (A - k * B) y (x - k * y) R S (P + k * R) (Q + k * S) true ∧ A - k * B < B := by
  have hd : Q * R = S * P + 1 := by simpa using h.det
  obtain ⟨c1, c2⟩ := cof_odd hd h.hX h.hY
  obtain ⟨c3, c4⟩ := cof_odd hd h.hx h.hy
  obtain ⟨l1, l2⟩ := lead hY hX hey hex c1 c3
  obtain ⟨l3, l4⟩ := lead hX hY hex hey c2 c4
  obtain ⟨q1, q2⟩ := lehmer_quot h1 h2 (by omega) l1 l2 l3 l4
  have hs := lehmer_small h1 h2
  have hky : k * y ≤ x := by rw [Nat.mul_add] at h1; omega
  have hx' : x0 = (Q + k * S) * y + S * (x - k * y) := by rw [← back hky]; exact h.hx
  have hy' : y0 = (P + k * R) * y + R * (x - k * y) := by rw [← back hky]; exact h.hy
  have hsy : S ≤ y := by simpa using h.sy
  refine ⟨⟨?_, ?_, hx', hy', ?_, ?_, ?_, h.b2, ⟨?_, ?_⟩, ?_, ?_⟩, by rw [Nat.add_mul] at q2; omega⟩
  · rw [← back q1]; exact h.hX
  · rw [← back q1]; exact h.hY
  · simp only [if_true]
    rw [Nat.mul_add, Nat.add_mul, hd, Nat.mul_left_comm, Nat.mul_assoc]
    omega
  · rw [Nat.add_mul] at q2; omega
  · rw [gcd_step q1]; exact h.hg
  · exact sq_small (x := y) (x0 := x0) (by omega) (by omega) hm
  · exact sq_small (x := y) (x0 := x0) (by omega) (by omega) hm
  · simpa using hsy
  · simp only [if_true]
    rw [Nat.mul_add] at h1; omega
end Wh
namespace Go.Proofs.YtmbcnfogjncdaaaGreat
open Go.RowKit Wh
theorem top_bound {l : List Nat} (hl : Lm l) (h0 : 0 < l.length) {k : Nat} (h : l[l.length - 1]?.getD 0 < 2 ^ k) : val l < 2 ^ (16 * (l.length - 1) + k) := by
 have e := val_take_succ (l := l) (i := l.length - 1) (by omega)
 rw [Nat.sub_add_cancel h0, List.take_of_length_le (Nat.le_refl _)] at e
 have h3 := val_lt (hl.take (l.length - 1))
 rw [List.length_take, Nat.min_eq_left (by omega), show (65536 : Nat) = 2 ^ 16 from rfl, ← Nat.pow_mul] at h3
 have h4 : 2 ^ (16 * (l.length - 1)) * (l[l.length - 1]?.getD 0 + 1) ≤ 2 ^ (16 * (l.length - 1)) * 2 ^ k := Nat.mul_le_mul_left _ h
 rw [Nat.pow_add]
 rw [Nat.mul_add, Nat.mul_one] at h4
 omega
theorem quots {x y P Q R S c d k : Nat} (hc : x = c + Q) (hd : y = d + R) (hd0 : 0 < d) (h1 : (x + P) / d = k) (h2 : c / (y + S) = k) :
  k * (y + S) + Q ≤ x ∧ x + P + (k + 1) * R < (k + 1) * y ∧ k * y ≤ x ∧ (P + k * R) + (Q + k * S) < y := by
 have a1 : k * (y + S) ≤ c := by rw [← h2]; exact Nat.div_mul_le_self _ _
 have a2 : x + P < (k + 1) * d := by
  have h3 := Nat.div_add_mod (x + P) d
  have h4 := Nat.mod_lt (x + P) hd0
  rw [h1, Nat.mul_comm] at h3
  rw [Nat.add_mul]
  omega
 have a3 : (k + 1) * y = (k + 1) * d + (k + 1) * R := by rw [hd, Nat.mul_add]
 have a4 : k * (y + S) + Q ≤ x := by omega
 have a5 : x + P + (k + 1) * R < (k + 1) * y := by omega
 refine ⟨a4, a5, ?_, lehmer_small a4 a5⟩
 rw [Nat.mul_add] at a4
 omega
def sg (b : Bool) (n : Nat) : Int := if b then (n : Int) else -(n : Int)
def StepRel (X Y x0 y0 : Nat) (p q r s x y : Value) : Prop := ∃ (A B x' y' P Q R S : Nat) (ev : Bool), LI X Y x0 y0 A B x' y' P Q R S ev ∧ (P = 1 ∧ Q = 0 ∨ B < A ∧ A ≤ Y) ∧ B ≤ Y ∧ x' < 4611686018427387904 ∧ y' < 4611686018427387904 ∧
 p = .int .i64 (sg ev P) ∧ q = .int .i64 (sg (!ev) Q) ∧ r = .int .i64 (sg (!ev) R) ∧ s = .int .i64 (sg ev S) ∧ x = .int .i64 (x' : Int) ∧ y = .int .i64 (y' : Int)
theorem steps_any (sa sb : Value) (X Y : Nat) (hYX : Y ≤ X) (hX0 : 4 < (dig X).length) (hX : (dig X).length ≤ 16384) (w : World) (h : Lim w sa (dig X)) (g : Lim w sb (dig Y)) :
    Calls Tryz.prog 250 #[sa, sb] w fun e w' => (∃ x0 y0 p q r s x y, StepRel X Y x0 y0 p q r s x y ∧ e = .returned (.tuple #[p, q, r, s])) ∧ Below w.heap.size w w' := by
  have hXn : X ≠ 0 := by rintro rfl; simp [dig_zero] at hX0
  have hlen : (dig Y).length ≤ (dig X).length := length_dig_mono hYX
  have hw1 : Calls Tryz.prog 259 #[sa] w fun e w' => (∃ low : Nat, e = .returned (.int .i64 ((low + 62 : Nat) : Int)) ∧ low ≤ 262144 ∧ X < 2 ^ (low + 62) ∧ 16 * (dig X).length ≤ low + 77) ∧ w = w' := by
    refine (bitLen_any sa (dig X) (dig_Lm X) (fun e => hXn ((dig_nil_iff X).1 e)) (by omega) (dig_last_ne hXn) w h).mono ?_
    rintro e w1 ⟨⟨k, rfl, hk1, hk2, hk3, hk4⟩, rfl⟩
    have ht := top_bound (dig_Lm X) (by omega) hk4
    rw [val_dig] at ht
    obtain ⟨low, hlow⟩ : ∃ low, 16 * ((dig X).length - 1) + k = low + 62 := ⟨16 * ((dig X).length - 1) + k - 62, by omega⟩
    rw [hlow] at ht ⊢
    exact ⟨⟨low, rfl, by omega, ht, by omega⟩, rfl⟩
  have hw2 := fun (low : Nat) (h1 : low ≤ 262144) (h2 : 16 * (dig X).length ≤ low + 77) (h3 : X < 2 ^ (low + 62)) => bitsFrom_any sa (dig X) (dig_Lm X) low (by omega) (by omega) (by omega) (by rw [val_dig, Nat.div_lt_iff_lt_mul (Nat.two_pow_pos _), Nat.mul_comm]; rw [Nat.pow_add] at h3; exact h3) w h
  have hw3 := fun (low : Nat) (h1 : low ≤ 262144) (h2 : 16 * (dig X).length ≤ low + 77) (h3 : X < 2 ^ (low + 62)) => bitsFrom_any sb (dig Y) (dig_Lm Y) low (by omega) (by omega) (by omega) (by rw [val_dig, Nat.div_lt_iff_lt_mul (Nat.two_pow_pos _), Nat.mul_comm]; rw [Nat.pow_add] at h3; exact Nat.lt_of_le_of_lt hYX h3) w g
  rw [val_dig] at hw2 hw3
  have HW1 := Lib.hid hw1
  have HW2 := Lib.hid hw2
  have HW3 := Lib.hid hw3
  clear hw1 hw2 hw3 hlen
  go_enter Tryz.func250, Tryz.ntmps250
  go_wp2_with (first
    | (go_at_call 259; refine HW1.out.mono ?_; rintro e w1 ⟨⟨low, rfl, hl1, hl2, hl3⟩, rfl⟩)
    | (go_at_call_of 260 sa; refine (HW2.out _ hl1 hl3 hl2).mono ?_; rintro e w1 ⟨rfl, rfl⟩)
    | (go_at_call_of 260 sb; refine (HW3.out _ hl1 hl3 hl2).mono ?_; rintro e w1 ⟨rfl, rfl⟩))
  have hx0 : X / 2 ^ low < 4611686018427387904 := by rw [Nat.div_lt_iff_lt_mul (Nat.two_pow_pos _), Nat.mul_comm]; rw [Nat.pow_add] at hl2; exact hl2
  have hyx : Y / 2 ^ low ≤ X / 2 ^ low := Nat.div_le_div_right hYX
  have hXe : X = 2 ^ low * (X / 2 ^ low) + X % 2 ^ low := (Nat.div_add_mod _ _).symm
  have hYe : Y = 2 ^ low * (Y / 2 ^ low) + Y % 2 ^ low := (Nat.div_add_mod _ _).symm
  have hXm : X % 2 ^ low < 2 ^ low := Nat.mod_lt _ (Nat.two_pow_pos _)
  have hYm : Y % 2 ^ low < 2 ^ low := Nat.mod_lt _ (Nat.two_pow_pos _)
  have ex : ((X : Int) / 2 ^ low) = ((X / 2 ^ low : Nat) : Int) := by simp
  have ey : ((Y : Int) / 2 ^ low) = ((Y / 2 ^ low : Nat) : Int) := by simp
  rw [ex, ey]
  clear ex ey HW1 HW2 HW3 hl2 hl3
  generalize X / 2 ^ low = x0 at *
  generalize Y / 2 ^ low = y0 at *
  generalize X % 2 ^ low = fx at *
  generalize Y % 2 ^ low = fy at *
  generalize 2 ^ low = L at *
  have HXE := Lib.hid hXe
  have HYE := Lib.hid hYe
  have HXM := Lib.hid hXm
  have HYM := Lib.hid hYm
  clear hXe hYe hXm hYm
  go_loopw [4, 5, 6, 7, 9, 10] (fun p q r s x y wr => StepRel X Y x0 y0 p q r s x y ∧ Same w wr) (fun _ _ _ _ _ y _ => (intOf y).toNat)
  case atStart => exact ⟨⟨X, Y, x0, y0, 1, 0, 0, 1, true, LI.start hYX, .inl ⟨rfl, rfl⟩, Nat.le_refl _, hx0, by omega, rfl, rfl, rfl, rfl, rfl, rfl⟩, rfl⟩
  case round =>
    obtain ⟨⟨A, B, x, y, P, Q, R, S, ev, hLI, hst, hBY, hxb, hyb, rfl, rfl, rfl, rfl, rfl, rfl⟩, hs⟩ := hrel
    obtain rfl : w = wr := hs
    obtain ⟨b11, b12⟩ := hLI.b1
    obtain ⟨b21, b22⟩ := hLI.b2
    have hsx := hLI.sx
    have hsy := hLI.sy
    have HLI := Lib.hid hLI
    have HST := Lib.hid hst
    clear hLI hst
    cases ev with
    | true =>
      simp only [if_true] at hsx hsy
      simp only [sg, if_true, Bool.not_true, Bool.false_eq_true, if_false]
      rcases Nat.lt_or_ge R y with hRy | hRy
      · obtain ⟨d, hd⟩ : ∃ d, y = d + R := ⟨y - R, by omega⟩
        obtain ⟨c, hc⟩ : ∃ c, x = c + Q := ⟨x - Q, by omega⟩
        have hd0 : 0 < d := by omega
        obtain ⟨k, hk⟩ : ∃ k, (x + P) / d = k := ⟨_, rfl⟩
        obtain ⟨k2, hk2⟩ : ∃ k2, c / (y + S) = k2 := ⟨_, rfl⟩
        have i1 : ((x : Int) + (P : Int)) / (d : Int) = (k : Int) := by rw [← hk]; simp
        have i2 : (c : Int) / ((y : Int) + (S : Int)) = (k2 : Int) := by rw [← hk2]; simp
        have i3 : (y : Int) + -(R : Int) = (d : Int) := by omega
        have i4 : (x : Int) + -(Q : Int) = (c : Int) := by omega
        have g1 : (0 : Int) < (d : Int) := by omega
        have g2 : (0 : Int) < (y : Int) + (S : Int) := by omega
        have g3 : ¬ (d : Int) = 0 := by omega
        have g4 : ¬ ((y : Int) + (S : Int)) = 0 := by omega
        have HD := Lib.hid hd
        have HC := Lib.hid hc
        have HK := Lib.hid hk
        have HK2 := Lib.hid hk2
        have HD0 := Lib.hid hd0
        clear hd hc hk hk2
        have hkb : k ≤ x + P := by rw [← HK.out]; exact Nat.div_le_self _ _
        have hkb2 : k2 ≤ c := by rw [← HK2.out]; exact Nat.div_le_self _ _
        rcases Nat.decEq k k2 with hkk | hkk
        · go_wp2
          exact bodyPost_ret (v := .tuple #[.int .i64 (P : Int), .int .i64 (-(Q : Int)), .int .i64 (-(R : Int)), .int .i64 (S : Int)]) (by simp [results, Tryz.results250, go_sem]) rfl
            ⟨⟨x0, y0, _, _, _, _, _, _, ⟨A, B, x, y, P, Q, R, S, true, HLI.out, HST.out, hBY, hxb, hyb, rfl, rfl, rfl, rfl, rfl, rfl⟩, rfl⟩, Below.refl _ _⟩
        · subst hkk
          go_wp2
          obtain ⟨a1, a2, a3, a4⟩ := quots HC.out HD.out HD0.out HK.out HK2.out
          obtain ⟨n1, n2⟩ := HLI.out.even HXE.out HYE.out HXM.out HYM.out a1 a2 hx0 hyx
          have j1 : wrap64 ((P : Int) - wrap64 ((k : Int) * -(R : Int))) = ((P + k * R : Nat) : Int) := by
            rw [Int.mul_neg, ← Int.natCast_mul, IntWalk.wrap64_in (-((k * R : Nat) : Int)) (by omega), IntWalk.wrap64_in _ (by omega)]; omega
          have j2 : wrap64 (-(Q : Int) - wrap64 ((k : Int) * (S : Int))) = -((Q + k * S : Nat) : Int) := by
            rw [← Int.natCast_mul, IntWalk.wrap64_in ((k * S : Nat) : Int) (by omega), IntWalk.wrap64_in _ (by omega)]; omega
          have j3 : wrap64 ((x : Int) - wrap64 ((k : Int) * (y : Int))) = ((x - k * y : Nat) : Int) := by
            rw [← Int.natCast_mul, IntWalk.wrap64_in ((k * y : Nat) : Int) (by omega), IntWalk.wrap64_in _ (by omega)]; omega
          rw [j1, j2, j3]
          have j4 : x - k * y < y := by rw [Nat.add_mul, Nat.add_mul] at a2; omega
          exact ⟨⟨⟨B, A - k * B, y, x - k * y, R, S, P + k * R, Q + k * S, false, n1, .inr ⟨n2, hBY⟩, by omega, hyb, by omega, rfl, rfl, rfl, rfl, rfl, rfl⟩, rfl⟩, by simp [intOf]; omega⟩
      · have g1 : ¬ (0 : Int) < (y : Int) + -(R : Int) := by omega
        go_wp2
        exact bodyPost_ret (v := .tuple #[.int .i64 (P : Int), .int .i64 (-(Q : Int)), .int .i64 (-(R : Int)), .int .i64 (S : Int)]) (by simp [results, Tryz.results250, go_sem]) rfl
          ⟨⟨x0, y0, _, _, _, _, ⟨_, _, A, B, x, y, P, Q, R, S, true, HLI.out, HST.out, hBY, hxb, hyb, rfl, rfl, rfl, rfl, rfl, rfl⟩, rfl⟩, Below.refl _ _⟩
    | false =>
      simp only [Bool.false_eq_true, if_false] at hsx hsy
      simp only [sg, if_true, Bool.not_false, Bool.false_eq_true, if_false]
      have hR0 : 0 < R := by
        have hdet := HLI.out.det
        simp only [Bool.false_eq_true, if_false] at hdet
        rcases Nat.eq_zero_or_pos R with rfl | hR
        · simp at hdet
        · exact hR
      rcases Nat.lt_or_ge S y with hRy | hRy
      · obtain ⟨d, hd⟩ : ∃ d, y = d + S := ⟨y - S, by omega⟩
        obtain ⟨c, hc⟩ : ∃ c, x = c + P := ⟨x - P, by omega⟩
        have hd0 : 0 < d := by omega
        obtain ⟨k2, hk2⟩ : ∃ k2, (x + Q) / d = k2 := ⟨_, rfl⟩
        obtain ⟨k, hk⟩ : ∃ k, c / (y + R) = k := ⟨_, rfl⟩
        have i1 : ((x : Int) + (Q : Int)) / (d : Int) = (k2 : Int) := by rw [← hk2]; simp
        have i2 : (c : Int) / ((y : Int) + (R : Int)) = (k : Int) := by rw [← hk]; simp
        have i3 : (y : Int) + -(S : Int) = (d : Int) := by omega
        have i4 : (x : Int) + -(P : Int) = (c : Int) := by omega
        have g1 : (0 : Int) < (d : Int) := by omega
        have g2 : (0 : Int) < (y : Int) + (R : Int) := by omega
        have g3 : ¬ (d : Int) = 0 := by omega
        have g4 : ¬ ((y : Int) + (R : Int)) = 0 := by omega
        have HD := Lib.hid hd
        have HC := Lib.hid hc
        have HK := Lib.hid hk
        have HK2 := Lib.hid hk2
        have HD0 := Lib.hid hd0
        clear hd hc hk hk2
        have hkb : k ≤ c := by rw [← HK.out]; exact Nat.div_le_self _ _
        have hkb2 : k2 ≤ x + Q := by rw [← HK2.out]; exact Nat.div_le_self _ _
        rcases Nat.decEq k k2 with hkk | hkk
        · go_wp2
          exact bodyPost_ret (v := .tuple #[.int .i64 (-(P : Int)), .int .i64 (Q : Int), .int .i64 (R : Int), .int .i64 (-(S : Int))]) (by simp [results, Tryz.results250, go_sem]) rfl
            ⟨⟨x0, y0, _, _, _, _, _, _, ⟨A, B, x, y, P, Q, R, S, false, HLI.out, HST.out, hBY, hxb, hyb, rfl, rfl, rfl, rfl, rfl, rfl⟩, rfl⟩, Below.refl _ _⟩
        · subst hkk
          go_wp2
          obtain ⟨a1, a2, a3, a4⟩ := quots (P := Q) (Q := P) (R := S) (S := R) HC.out HD.out HD0.out HK2.out HK.out
          obtain ⟨n1, n2⟩ := HLI.out.odd HXE.out HYE.out HXM.out HYM.out a1 a2 hx0 hyx
          have j1 : wrap64 ((Q : Int) - wrap64 ((k : Int) * -(S : Int))) = ((Q + k * S : Nat) : Int) := by
            rw [Int.mul_neg, ← Int.natCast_mul, IntWalk.wrap64_in (-((k * S : Nat) : Int)) (by omega), IntWalk.wrap64_in _ (by omega)]; omega
          have j2 : wrap64 (-(P : Int) - wrap64 ((k : Int) * (R : Int))) = -((P + k * R : Nat) : Int) := by
            rw [← Int.natCast_mul, IntWalk.wrap64_in ((k * R : Nat) : Int) (by omega), IntWalk.wrap64_in _ (by omega)]; omega
          have j3 : wrap64 ((x : Int) - wrap64 ((k : Int) * (y : Int))) = ((x - k * y : Nat) : Int) := by
            rw [← Int.natCast_mul, IntWalk.wrap64_in ((k * y : Nat) : Int) (by omega), IntWalk.wrap64_in _ (by omega)]; omega
          rw [j1, j2, j3]
          have j4 : x - k * y < y := by rw [Nat.add_mul, Nat.add_mul] at a2; omega
          exact ⟨⟨⟨B, A - k * B, y, x - k * y, R, S, P + k * R, Q + k * S, true, n1, .inr ⟨n2, hBY⟩, by omega, hyb, by omega, rfl, rfl, rfl, rfl, rfl, rfl⟩, rfl⟩, by simp [intOf]; omega⟩
      · have g1 : ¬ (0 : Int) < (y : Int) + -(S : Int) := by omega
        have g2 : (0 : Int) < (y : Int) + (R : Int) := by omega
        go_wp2
        exact bodyPost_ret (v := .tuple #[.int .i64 (-(P : Int)), .int .i64 (Q : Int), .int .i64 (R : Int), .int .i64 (-(S : Int))]) (by simp [results, Tryz.results250, go_sem]) rfl
          ⟨⟨x0, y0, _, _, _, _, ⟨_, _, A, B, x, y, P, Q, R, S, false, HLI.out, HST.out, hBY, hxb, hyb, rfl, rfl, rfl, rfl, rfl, rfl⟩, rfl⟩, Below.refl _ _⟩
end Go.Proofs.YtmbcnfogjncdaaaGreat
namespace Go.Proofs.YtmbcnfogjncdaaaGreat
open Go.RowKit Wh
theorem stepRel_out {X Y x0 y0 : Nat} {p q r s x y : Value} (h : StepRel X Y x0 y0 p q r s x y) : ∃ pi qi ri si : Int, p = .int .i64 pi ∧ q = .int .i64 qi ∧ r = .int .i64 ri ∧ s = .int .i64 si ∧
    (-2147483647 ≤ pi ∧ pi ≤ 2147483647 ∧ -2147483647 ≤ qi ∧ qi ≤ 2147483647 ∧ -2147483647 ≤ ri ∧ ri ≤ 2147483647 ∧ -2147483647 ≤ si ∧ si ≤ 2147483647) ∧
    (qi ≠ 0 → ∃ A B : Nat, (X : Int) * pi + (Y : Int) * qi = (A : Int) ∧ (X : Int) * ri + (Y : Int) * si = (B : Int) ∧ Nat.gcd A B = Nat.gcd X Y ∧ B < A ∧ A ≤ Y) := by
  obtain ⟨A, B, x', y', P, Q, R, S, ev, hL, hst, -, -, -, rfl, rfl, rfl, rfl, -, -⟩ := h
  obtain ⟨b1, b2⟩ := hL.b1
  obtain ⟨b3, b4⟩ := hL.b2
  refine ⟨_, _, _, _, rfl, rfl, rfl, rfl, ?_, fun hq => ⟨A, B, ?_⟩⟩
  · cases ev <;> simp [sg] <;> omega
  · have hst2 : B < A ∧ A ≤ Y := by
      rcases hst with ⟨-, rfl⟩ | hst
      · exact absurd (by cases ev <;> simp [sg]) hq
      · exact hst
    cases ev with
    | true =>
      obtain ⟨c1, c2⟩ := cof_even (by simpa using hL.det) hL.hX hL.hY
      have c3 := congrArg (Nat.cast (R := Int)) c1
      have c4 := congrArg (Nat.cast (R := Int)) c2
      simp only [Int.natCast_mul, Int.natCast_add] at c3 c4
      refine ⟨?_, ?_, hL.hg, hst2⟩
      · simp only [sg, if_true, Bool.not_true, Bool.false_eq_true, if_false]
        rw [Int.mul_neg, Int.mul_comm, Int.mul_comm (Y : Int)]; omega
      · simp only [sg, if_true, Bool.not_true, Bool.false_eq_true, if_false]
        rw [Int.mul_neg, Int.mul_comm, Int.mul_comm (Y : Int)]; omega
    | false =>
      obtain ⟨c1, c2⟩ := cof_odd (by simpa using hL.det) hL.hX hL.hY
      have c3 := congrArg (Nat.cast (R := Int)) c1
      have c4 := congrArg (Nat.cast (R := Int)) c2
      simp only [Int.natCast_mul, Int.natCast_add] at c3 c4
      refine ⟨?_, ?_, hL.hg, hst2⟩
      · simp only [sg, if_true, Bool.not_false, Bool.false_eq_true, if_false]
        rw [Int.mul_neg, Int.mul_comm, Int.mul_comm (Y : Int)]; omega
      · simp only [sg, if_true, Bool.not_false, Bool.false_eq_true, if_false]
        rw [Int.mul_neg, Int.mul_comm, Int.mul_comm (Y : Int)]; omega
theorem reduce_any (sa sb : Value) (X Y : Nat) (hYX : Y ≤ X) (hY0 : 4 < (dig Y).length) (hX : (dig X).length ≤ 16384) (w : World) (h : Lim w sa (dig X)) (g : Lim w sb (dig Y)) :
    Calls Tryz.prog 211 #[sa, sb] w fun e w' => (∃ va vb, ∃ A B : Nat, e = .returned (.tuple #[va, vb]) ∧ Nat.gcd A B = Nat.gcd X Y ∧ B < A ∧ A ≤ Y ∧ Lim w' va (dig A) ∧ Lim w' vb (dig B)) ∧ Below w.heap.size w w' := by
  have hlen : (dig Y).length ≤ (dig X).length := length_dig_mono hYX
  have hYn : Y ≠ 0 := by rintro rfl; simp [dig_zero] at hY0
  have hw1 : Calls Tryz.prog 250 #[sa, sb] w fun e w' => (∃ pi qi ri si : Int, e = .returned (.tuple #[.int .i64 pi, .int .i64 qi, .int .i64 ri, .int .i64 si]) ∧
    (-2147483647 ≤ pi ∧ pi ≤ 2147483647 ∧ -2147483647 ≤ qi ∧ qi ≤ 2147483647 ∧ -2147483647 ≤ ri ∧ ri ≤ 2147483647 ∧ -2147483647 ≤ si ∧ si ≤ 2147483647) ∧
    (qi ≠ 0 → ∃ A B : Nat, (X : Int) * pi + (Y : Int) * qi = (A : Int) ∧ (X : Int) * ri + (Y : Int) * si = (B : Int) ∧ Nat.gcd A B = Nat.gcd X Y ∧ B < A ∧ A ≤ Y)) ∧ Below w.heap.size w w' := by
    refine (steps_any sa sb X Y hYX (by omega) hX w h g).mono ?_
    rintro e w1 ⟨⟨x0, y0, p, q, r, s, x, y, hs, rfl⟩, hb⟩
    obtain ⟨pi, qi, ri, si, rfl, rfl, rfl, rfl, h1, h2⟩ := stepRel_out hs
    exact ⟨⟨pi, qi, ri, si, rfl, h1, h2⟩, hb⟩
  obtain ⟨a, cap, rfl, -⟩ := id h
  obtain ⟨b, capb, rfl, -⟩ := id g
  have hw2 := fun W (hW : Below w.heap.size w W) => divide_any (.slice a (dig X).length cap) (.slice b (dig Y).length capb) X Y hYn hX W (h.below hW (Nat.le_refl _)) (g.below hW (Nat.le_refl _))
  have hw3 := fun (p q : Int) (C : Nat) (e : (X : Int) * p + (Y : Int) * q = (C : Int)) (p1 : -2147483647 ≤ p) (p2 : p ≤ 2147483647) (q1 : -2147483647 ≤ q) (q2 : q ≤ 2147483647) W (hW : Below w.heap.size w W) =>
    combine_any (.slice a (dig X).length cap) (.slice b (dig Y).length capb) (dig X) (dig Y) p q (dig_Lm X) (dig_Lm Y) (by omega) (by omega) (by omega) (by omega) (by omega) (by omega) (by rw [val_dig, val_dig, e]; omega) W (h.below hW (Nat.le_refl _)) (g.below hW (Nat.le_refl _))
  rw [val_dig, val_dig] at hw3
  have HW1 := Lib.hid hw1
  have HW2 := Lib.hid hw2
  have HW3 := Lib.hid hw3
  have HG := Lib.hid g
  clear hw1 hw2 hw3 hlen g
  go_enter Tryz.func211, Tryz.ntmps211
  go_wp2_with (first
    | (go_at_call 250; refine HW1.out.mono ?_; rintro e w1 ⟨⟨pi, qi, ri, si, rfl, ⟨p1, p2, q1, q2, r1, r2, s1, s2⟩, hAB⟩, hb1⟩)
    | (go_at_call 130; refine (HW2.out _ hb1).mono ?_; rintro e w2 ⟨⟨vq, vr, rfl, hlq, hlr⟩, hb2⟩))
  · have hb3 := hb1.trans (hb2.mono hb1.size)
    exact bodyPost_ret (v := .tuple #[.slice b (dig Y).length capb, vr]) (by simp [results, Tryz.results211, go_sem]) rfl
      ⟨⟨_, _, Y, X % Y, rfl, by rw [Nat.gcd_comm X Y, Nat.gcd_rec Y X, Nat.gcd_comm], Nat.mod_lt _ (Nat.pos_of_ne_zero hYn), Nat.le_refl _, HG.out.below hb3 (Nat.le_refl _), hlr.1⟩, hb3⟩
  · have hq : (qi == 0) = false := by assumption
    obtain ⟨A, B, eA, eB, hgc, hBA, hAY⟩ := hAB (by simpa using hq)
    have h1 := HW3.out pi qi A eA p1 p2 q1 q2
    have h2 := HW3.out ri si B eB r1 r2 s1 s2
    rw [eA, Int.toNat_natCast] at h1
    rw [eB, Int.toNat_natCast] at h2
    have H1 := Lib.hid h1
    have H2 := Lib.hid h2
    have HBA := Lib.hid hBA
    have HGC := Lib.hid hgc
    clear eA eB hBA hgc hAB h1 h2
    go_wp2_with (first
      | (go_at_call_of 131 (Value.int .i64 pi); refine (H1.out _ hb1).mono ?_; rintro e w2 ⟨⟨va, rfl, hla⟩, hb2⟩; have hb12 := hb1.trans (hb2.mono hb1.size))
      | (go_at_call_of 131 (Value.int .i64 ri); refine (H2.out _ hb12).mono ?_; rintro e w3 ⟨⟨vb, rfl, hlb⟩, hb3⟩))
    exact bodyPost_ret (v := .tuple #[va, vb]) (by simp [results, Tryz.results211, go_sem]) rfl
      ⟨⟨_, _, A, B, rfl, HGC.out, HBA.out, hAY, (hla.below hb3).1, hlb.1⟩, hb12.trans (hb3.mono hb12.size)⟩
end Go.Proofs.YtmbcnfogjncdaaaGreat
namespace Go.Proofs.YtmbcnfogjncdaaaGreat
open Go.RowKit Wh
def ComRel (X Y n : Nat) (wr : World) (va vb : Value) : Prop := ∃ A B : Nat, Nat.gcd A B = Nat.gcd X Y ∧ B ≤ A ∧ (dig A).length ≤ n ∧ Lim wr va (dig A) ∧ Lim wr vb (dig B)
theorem Lim.uniq {W : World} {v : Value} {l l' : List Nat} (h : Lim W v l) (h' : Lim W v l') : l = l' := by
  obtain ⟨a, cap, rfl, -⟩ := id h
  have hlen : l.length = l'.length := by
    obtain ⟨a', cap', e, -⟩ := id h'
    injection e
  by_cases hne : l = []
  · subst hne
    exact (List.eq_nil_of_length_eq_zero hlen.symm).symm
  have hne' : l' ≠ [] := fun e => hne (List.eq_nil_of_length_eq_zero (by rw [hlen, e]; rfl))
  obtain ⟨b, off, rfl, hb, hc⟩ := h.block hne
  rw [hlen] at h'
  obtain ⟨b', off', e, hb', hc'⟩ := h'.block hne'
  cases e
  refine List.ext_getElem hlen (fun k h1 h2 => ?_)
  have e1 := (hc k h1).symm.trans (hc' k h2)
  simp [h1, h2] at e1
  omega
theorem lf_slice0 {B : Nat} {W : World} {v : Value} {l : List Nat} (h : LimF B W v l) : ∃ a cap, v = .slice a l.length cap := by
 obtain ⟨a, cap, e, -⟩ := h.1; exact ⟨a, cap, e⟩
open Classical in
noncomputable def numOf (W : World) (v : Value) : Nat := if h : ∃ n, Lim W v (dig n) then h.choose else 0
theorem numOf_eq {W : World} {v : Value} {n : Nat} (h : Lim W v (dig n)) : numOf W v = n := by
 have he : ∃ n, Lim W v (dig n) := ⟨n, h⟩
 unfold numOf
 rw [dif_pos he]
 have e := congrArg val (he.choose_spec.uniq h)
 rwa [val_dig, val_dig] at e
theorem commonDivisor_any (sa sb : Value) (X Y : Nat) (hX : (dig X).length ≤ 16384) (hY : (dig Y).length ≤ 16384) (w : World) (h : Lim w sa (dig X)) (g : Lim w sb (dig Y)) :
    Calls Tryz.prog 168 #[sa, sb] w fun e w' => (∃ v, e = .returned v ∧ LimF w.heap.size w' v (dig (Nat.gcd X Y))) ∧ Below w.heap.size w w' := by
  have hw1 := compare_any sa sb (dig X) (dig Y) (dig_Lm X) (dig_Lm Y) w h g
  rw [cmp_dig] at hw1
  have HW1 := Lib.hid hw1
  clear hw1
  obtain ⟨a, cap, rfl, -⟩ := id h
  obtain ⟨b, capb, rfl, -⟩ := id g
  obtain ⟨cm, hcm⟩ : ∃ cm, cm = cmpN X Y := ⟨_, rfl⟩
  have hcm2 : (cm < 0 ↔ X < Y) := by rw [hcm]; unfold cmpN; split <;> (try split) <;> omega
  rw [← hcm] at HW1
  clear hcm
  have HC2 := Lib.hid hcm2
  clear hcm2
  rcases Int.lt_or_le cm 0 with hc0 | hc0
  all_goals
    go_enter Tryz.func168, Tryz.ntmps168
    go_wp2_with (go_at_call 142; refine HW1.out.mono ?_; rintro e w1 ⟨rfl, hb1⟩)
    go_loopw [0, 1] (fun va vb wr => ComRel X Y 16384 wr va vb ∧ Below w.heap.size w wr) (fun _ vb wr => numOf wr vb)
    case atStart => first
      | exact ⟨⟨Y, X, Nat.gcd_comm Y X, by have := HC2.out; omega, hY, g.below hb1 (Nat.le_refl _), h.below hb1 (Nat.le_refl _)⟩, hb1⟩
      | exact ⟨⟨X, Y, rfl, by have := HC2.out; omega, hX, h.below hb1 (Nat.le_refl _), g.below hb1 (Nat.le_refl _)⟩, hb1⟩
    case round =>
      obtain ⟨⟨A, B, hgc, hBA, hA, hla, hlb⟩, hB⟩ := hrel
      obtain ⟨a1, c1, rfl, -⟩ := id hla
      obtain ⟨b1, d1, rfl, -⟩ := id hlb
      rcases Nat.lt_or_ge 4 (dig B).length with h4 | h4
      · have hr := reduce_any _ _ A B hBA h4 hA wr hla hlb
        have HR := Lib.hid hr
        clear hr
        go_wp2_with (go_at_call 211; refine HR.out.mono ?_; rintro e w2 ⟨⟨va, vb, A', B', rfl, g', l1, l2, m1, m2⟩, hb2⟩; obtain ⟨a2, c2, rfl, -⟩ := id m1; obtain ⟨b2, d2, rfl, -⟩ := id m2)
        have hn : (dig A').length ≤ (dig B).length := length_dig_mono l2
        have hn2 : (dig B).length ≤ (dig A).length := length_dig_mono hBA
        have hnum : numOf w2 (.slice b2 (dig B').length d2) < numOf wr (.slice b1 (dig B).length d1) := by rw [numOf_eq m2, numOf_eq hlb]; omega
        go_roundw
        case rel => exact ⟨⟨A', B', g'.trans hgc, by omega, by omega, m1, m2⟩, hB.trans (hb2.mono hB.size)⟩
        case measure => exact hnum
      · have hlen4 : ¬ 4 < ((dig B).length : Int) := by omega
        have hn2 : (dig B).length ≤ (dig A).length := length_dig_mono hBA
        have HGC := Lib.hid hgc
        clear hgc
        rcases Nat.eq_zero_or_pos B with hB0 | hB0
        · have hl0 : (((dig B).length : Int) == 0) = true := by subst hB0; simp [dig_zero]
          have hcp := copied_any _ _ wr hla
          have HCP := Lib.hid hcp
          have HB0 := Lib.hid hB0
          clear hcp hB0
          go_wp2_with (go_at_call 164; refine HCP.out.mono ?_; rintro e w2 ⟨⟨v', rfl, hl', hown⟩, hb2⟩)
          go_ret
          have e1 : Nat.gcd X Y = A := by rw [← HGC.out, HB0.out, Nat.gcd_zero_right]
          exact ⟨⟨v', rfl, by rw [e1]; exact ⟨hl', (Fr.of_owns hown).mono hB.size⟩⟩, hB.trans (hb2.mono hB.size)⟩
        · have hne0 : (((dig B).length : Int) == 0) = false := by
            have : dig B ≠ [] := fun e => by have := (dig_nil_iff B).1 e; omega
            have := List.length_pos_iff.2 this
            simp; omega
          have hB4 : B < 18446744073709551616 := (length_dig_le B 4).1 h4
          have hAB : A % B < B := Nat.mod_lt _ hB0
          have hw2 := divide_any _ _ A B (by omega) hA wr hla hlb
          have hw3 := fun W (hW : Below wr.heap.size wr W) => word_any _ (dig B) (dig_Lm B) W (hlb.below hW (Nat.le_refl _))
          rw [val_dig, Nat.mod_eq_of_lt hB4] at hw3
          have hw4 := fun s W (hW : Lim W s (dig (A % B))) => word_any s (dig (A % B)) (dig_Lm _) W hW
          rw [val_dig, Nat.mod_eq_of_lt (Nat.lt_trans hAB hB4)] at hw4
          have hw5 := fun W => shortDivisor_any B (A % B) hB4 (Nat.lt_trans hAB hB4) W
          have hw6 := fun W => limbsOf_any (Nat.gcd B (A % B)) (Nat.lt_of_le_of_lt (Nat.gcd_le_left _ hB0) hB4) W
          have eg : Nat.gcd B (A % B) = Nat.gcd X Y := by rw [← HGC.out, Nat.gcd_comm A B, Nat.gcd_rec B A, Nat.gcd_comm]
          rw [eg] at hw5 hw6
          have HW2 := Lib.hid hw2
          have HW3 := Lib.hid hw3
          have HW4 := Lib.hid hw4
          have HW5 := Lib.hid hw5
          have HW6 := Lib.hid hw6
          clear hw2 hw3 hw4 hw5 hw6 eg hB4 hAB
          go_wp2_with (first
            | (go_at_call 130; refine HW2.out.mono ?_; rintro e w2 ⟨⟨vq, vr, rfl, hlq, hlr⟩, hb2⟩; obtain ⟨aq, cq, rfl⟩ := lf_slice0 hlq; obtain ⟨ar, cr, rfl⟩ := lf_slice0 hlr)
            | (go_at_call_of 55 (Value.slice b1 (dig B).length d1); refine (HW3.out _ hb2).mono ?_; rintro e w3 ⟨rfl, hb3⟩; have hb23 := hb2.trans (hb3.mono hb2.size); have hlr3 := hlr.1.below hb3 (Nat.le_refl _))
            | (go_at_call_of 55 (Value.slice ar (dig (A % B)).length cr); refine (HW4.out _ _ hlr3).mono ?_; rintro e w4 ⟨rfl, hb4⟩; have hb24 := hb23.trans (hb4.mono hb23.size))
            | (go_at_call 212; refine (HW5.out _).mono ?_; rintro e w5 ⟨rfl, hb5⟩; have hb25 := hb24.trans (hb5.mono hb24.size))
            | (go_at_call 65; refine (HW6.out _).mono ?_; rintro e w6 ⟨⟨v', rfl, hl'⟩, hb6⟩; have hb26 := hb25.trans (hb6.mono hb25.size)))
          go_ret
          exact ⟨⟨v', rfl, hl'.mono (Nat.le_trans hB.size hb25.size)⟩, hB.trans (hb26.mono hB.size)⟩
end Go.Proofs.YtmbcnfogjncdaaaGreat
