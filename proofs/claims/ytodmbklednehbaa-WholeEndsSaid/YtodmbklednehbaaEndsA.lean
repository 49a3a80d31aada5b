/-
'WholeEnds': its numbers.
-/
import Derived.Test.YtodmbklednehbaaLarge
import Derived.Test.YtodmbklednehbaaDivided
namespace Go.Proofs.Ytodmbklednehbaa
open Go.RowKit Wh

theorem num_nat {W : World} {s : Value} {n : Nat} (h : Lim W s (dig n)) : Num W (.agg #[.bool false, s]) (n : Int) :=
  ⟨s, by rw [decide_eq_false (by omega)], by rwa [Int.natAbs_natCast]⟩
theorem num_neg {W : World} {b : Bool} {s : Value} {n : Nat} (hn : 0 < n) (h : Num W (.agg #[.bool b, s]) (n : Int)) : Num W (.agg #[.bool true, s]) (-(n : Int)) :=
  ⟨s, by rw [decide_eq_true (show -(n : Int) < 0 by omega)], by have := (neg_num h).2; rwa [Int.natAbs_neg]⟩

theorem long_of {n : Nat} (h : 65536 ^ 1024 ≤ n) : 1024 < (dig n).length := by
  rcases Nat.lt_or_ge 1024 (dig n).length with g | g
  · exact g
  · exact absurd ((length_dig_le _ _).1 g) (Nat.not_lt.2 h)

/-- The greatest number. -/
theorem top_facts : ∃ P : Nat, 0 < P ∧ P = 65536 ^ 1024 - 1 ∧ Sz 1024 (P : Int) ∧ Sz 1024 (-(P : Int)) ∧ 1024 < (dig ((P : Int) + 1).natAbs).length ∧ 1024 < (dig ((P : Int) * 2).natAbs).length ∧ 1024 < (dig (-(P : Int) - 1).natAbs).length := by
  obtain ⟨Q, hQ⟩ : ∃ Q : Nat, Q = 65536 ^ 1024 := ⟨_, rfl⟩
  have h2 : 2 ≤ Q := by rw [hQ]; decide +kernel
  have hs : Sz 1024 ((Q - 1 : Nat) : Int) := Sz.of_lt (by rw [Int.natAbs_natCast, ← hQ]; omega)
  refine ⟨Q - 1, by omega, by rw [hQ], hs, hs.neg, long_of ?_, long_of ?_, long_of ?_⟩
  all_goals (rw [← hQ]; omega)

theorem square_facts : ∃ M : Nat, M = 65536 ^ 512 - 1 ∧ Sz 512 (M : Int) ∧ (dig ((M : Int) * (M : Int)).natAbs).length = 1024 ∧ (dig ((M : Int) * (M : Int)).natAbs)[0]?.getD 0 = 1 ∧ (dig ((M : Int) * (M : Int)).natAbs)[512]?.getD 0 = 65534 ∧ 0 ≤ (M : Int) * (M : Int) := by
  obtain ⟨M, hM⟩ : ∃ M : Nat, M = 65536 ^ 512 - 1 := ⟨_, rfl⟩
  have e : ((M : Int) * (M : Int)).natAbs = M * M := by rw [Int.natAbs_mul]; rfl
  refine ⟨M, hM, Sz.of_lt (by rw [Int.natAbs_natCast, hM]; decide +kernel), ?_, ?_, ?_, Int.mul_nonneg (by omega) (by omega)⟩
  · rw [e]
    refine Nat.le_antisymm ((length_dig_le _ _).2 (by rw [hM]; decide +kernel)) ?_
    rcases Nat.lt_or_ge 1023 (dig (M * M)).length with g | g
    · exact g
    · exact absurd ((length_dig_le _ _).1 g) (by rw [hM]; decide +kernel)
  · rw [e, dig_getD, hM]; decide +kernel
  · rw [e, dig_getD, hM]; decide +kernel

theorem large_num (n P : Nat) (hP : P = 65536 ^ n - 1) (h0 : 0 < n) (hn : n ≤ 4096) (w : World) :
    Calls Try.prog 24 #[.int .i64 (n : Int)] w fun e w' => (∃ a c, e = .returned (.agg #[.bool false, .slice a n c]) ∧ Num w' (.agg #[.bool false, .slice a n c]) (P : Int)) ∧ Below w.heap.size w w' := by
  subst hP
  refine (large_any n h0 hn w).mono ?_
  rintro e w' ⟨⟨a, c, rfl, hl⟩, hB⟩
  exact ⟨⟨a, c, rfl, num_nat hl.1⟩, hB⟩

theorem vld_over (n : Nat) (hn : 1024 < n) : vld false (dig (65536 ^ n - 1)) = false := by
  rw [dig_ones]
  unfold vld
  rw [if_neg (by intro h; have := congrArg List.length h; rw [List.length_replicate] at this; simp at this; omega), List.length_replicate, decide_eq_false (show ¬ n ≤ 1024 by omega), Bool.false_and]

theorem large_gen (n : Nat) (h0 : 1024 < n) (hn : n ≤ 4096) (w : World) :
    Calls Try.prog 24 #[.int .i64 (n : Int)] w fun e w' => (∃ a c, e = .returned (.agg #[.bool false, .slice a n c]) ∧ ∃ l, Lim w' (.slice a n c) l ∧ vld false l = false) ∧ Below w.heap.size w w' := by
  refine (large_any n (by omega) hn w).mono ?_
  rintro e w' ⟨⟨a, c, rfl, hl⟩, hB⟩
  exact ⟨⟨a, c, rfl, _, hl.1, vld_over n h0⟩, hB⟩

theorem large_over (w : World) :
    Calls Try.prog 24 #[.int .i64 1025] w fun e w' => (∃ a c, e = .returned (.agg #[.bool false, .slice a 1025 c]) ∧ ∃ l, Lim w' (.slice a 1025 c) l ∧ vld false l = false) ∧ Below w.heap.size w w' :=
  large_gen 1025 (by omega) (by omega) w

theorem large_1024 (P : Nat) (hP : P = 65536 ^ 1024 - 1) (w : World) :
    Calls Try.prog 24 #[.int .i64 1024] w fun e w' => (∃ a c, e = .returned (.agg #[.bool false, .slice a 1024 c]) ∧ Num w' (.agg #[.bool false, .slice a 1024 c]) (P : Int)) ∧ Below w.heap.size w w' :=
  large_num 1024 P hP (by omega) (by omega) w
theorem large_512 (P : Nat) (hP : P = 65536 ^ 512 - 1) (w : World) :
    Calls Try.prog 24 #[.int .i64 512] w fun e w' => (∃ a c, e = .returned (.agg #[.bool false, .slice a 512 c]) ∧ Num w' (.agg #[.bool false, .slice a 512 c]) (P : Int)) ∧ Below w.heap.size w w' :=
  large_num 512 P hP (by omega) (by omega) w
theorem Add_to (va vb : Value) (a b z : Int) (hz : a + b = z) (ha : (dig a.natAbs).length ≤ 1024) (hb : (dig b.natAbs).length ≤ 1024) (w : World) (h' : Num w va a) (g' : Num w vb b) (hlen : (dig z.natAbs).length ≤ 1024) :
    Calls Try.prog 13 #[va, vb] w fun e w' => (∃ v, e = .returned (.tuple #[v, .int .i64 0]) ∧ NumF w.heap.size w' v z) ∧ Below w.heap.size w w' := by
  subst hz; exact Add_ok va vb a b ha hb w h' g' hlen
theorem abs_least {W : World} {b : Bool} {s : Value} (h : Num W (.agg #[.bool b, s]) (-9223372036854775808)) : Num W (.agg #[.bool false, s]) 9223372036854775808 := abs_num h

theorem num_cells {W : World} {b : Bool} {a : Option Addr} {k c : Nat} {z : Int} (h : Num W (.agg #[.bool b, .slice a k c]) z) (hk : (dig z.natAbs).length = 1024) : k = 1024 ∧ 1024 ≤ c ∧ ∃ B o, a = some ⟨B, o, none⟩ ∧ ∀ j, j < 1024 → W.cell? ⟨B, o + j, none⟩ = some (.int .u16 (((dig z.natAbs)[j]?.getD 0 : Nat) : Int)) := by
  have hl := (neg_num h).2
  have ek := lim_len hl
  rw [hk] at ek
  obtain ⟨a', cap, e, h1, h2, h3⟩ := hl
  cases e
  rw [hk] at h1
  refine ⟨ek, h1, ?_⟩
  rcases h3 with h3 | ⟨b, off, rfl, hc⟩
  · rw [h3] at hk; simp at hk
  · exact ⟨b, off, rfl, fun j hj => hc j (by omega)⟩

end Go.Proofs.Ytodmbklednehbaa
